package lower_test

import (
	"fmt"
	"math/rand"
	"strings"

	"interlock/api"
	"interlock/code"
	"interlock/names"
	"interlock/tree"
)

// What the chapter says, read a second time and by other means than the package's own, for the tests to hold the package
// against: it is known how many instructions a statement has before any is told, so each one knows at once where it stands
// and where it goes on.

// chapterTable has the statements whose instructions go on nowhere else: t and r are the table and the row that is asked for
// or given up; of the others the fields that they have.
const chapterTable = `
Read       Ask-t-IS Ask-r-S Read-row-col-var
ReadUpdate Ask-t-IX Ask-r-X Read-row-col-var
Set        Ask-t-IX Ask-r-X Set-row-col-vals
Put        Ask-t-IX Ask-r-X Put-row-vals
Delete     Ask-t-IX Ask-r-X Delete-row
Scan       Ask-t-S Scan-t-col-var
LockShared Ask-t-S
LockAll    Ask-t-X
Release    Free-t
ReleaseRow Free-r
Let        Let-var-vals
Emit       Emit-vals
Rollback   Rollback
Chop       Piece
`

var chapter = readChapter()

func readChapter() map[string][]string {
	lines := map[string][]string{}
	for _, line := range strings.Split(strings.TrimSpace(chapterTable), "\n") {
		words := strings.Fields(line)
		lines[words[0]] = words[1:]
	}
	return lines
}

var opNames = []string{"", "Ask", "Free", "Read", "Set", "Put", "Delete", "Scan", "Let", "Emit", "Jump", "Unless", "Begin", "Next", "Rollback", "Piece", "End"}

var modeNames = []string{"None", "IS", "IX", "S", "SIX", "X"}

func placeOf(all []string, word string) int {
	for i, x := range all {
		if x == word {
			return i
		}
	}
	panic(word)
}

// lineOf is the name of a statement's line; "" of If and For.
func lineOf(p names.Program, i int) string {
	n := p.Tree.Nodes[i]
	switch n.Kind {
	case tree.Read:
		return []string{"Read", "ReadUpdate"}[n.N]
	case tree.Lock:
		return []string{"LockShared", "LockAll"}[n.N]
	case tree.Release:
		if p.Tree.Nodes[n.Kids[0]].Kind == tree.Row {
			return "ReleaseRow"
		}
		return "Release"
	case tree.If, tree.For:
		return ""
	}
	return map[uint8]string{tree.Set: "Set", tree.Put: "Put", tree.Delete: "Delete", tree.Scan: "Scan", tree.Let: "Let", tree.Emit: "Emit", tree.Rollback: "Rollback", tree.Chop: "Chop"}[n.Kind]
}

// sizeOf tells how many instructions a statement, or a block, has.
func sizeOf(p names.Program, i int) int {
	n := p.Tree.Nodes[i]
	size := 0
	switch n.Kind {
	case tree.If:
		size = len(n.Kids) - 2 // Unless, and Jump
	case tree.For:
		size = 2
	case tree.Block:
	default:
		return len(chapter[lineOf(p, i)])
	}
	for _, kid := range n.Kids {
		if kind := p.Tree.Nodes[kid].Kind; kind == tree.Block || n.Kind == tree.Block {
			size += sizeOf(p, kid)
		}
	}
	return size
}

// procAs are the instructions of a resolved program's procedure, whose tree is not deep.
func procAs(p names.Program, number int) []code.Instr {
	root := p.Procs[number].Root
	l := blockAs(p, p.Tree.Nodes[root].Kids[1], 0)
	return append(l, code.Instr{Op: code.End, Node: root})
}

// blockAs are the instructions of a block, the first one of which stands at that place.
func blockAs(p names.Program, i, at int) []code.Instr {
	var l []code.Instr
	for _, kid := range p.Tree.Nodes[i].Kids {
		l = append(l, statementAs(p, kid, at+len(l))...)
	}
	return l
}

func statementAs(p names.Program, i, at int) []code.Instr {
	n := p.Tree.Nodes[i]
	behind := at + sizeOf(p, i)
	switch n.Kind {
	case tree.If:
		first := code.Instr{Op: code.Unless, Node: i, Equal: n.N != 0, To: behind, Vals: [][]code.Term{termsAs(p, n.Kids[0]), termsAs(p, n.Kids[1])}}
		l := append([]code.Instr{first}, blockAs(p, n.Kids[2], at+1)...)
		if len(n.Kids) == 4 {
			l[0].To = behind - sizeOf(p, n.Kids[3])
			l = append(l, code.Instr{Op: code.Jump, Node: i, To: behind})
			l = append(l, blockAs(p, n.Kids[3], l[0].To)...)
		}
		return l
	case tree.For:
		from, upto := p.Tree.Nodes[n.Kids[0]].N, p.Tree.Nodes[n.Kids[1]].N
		l := []code.Instr{{Op: code.Begin, Node: i, Var: p.Of[i], From: from, Upto: upto, To: behind}}
		l = append(l, blockAs(p, n.Kids[2], at+1)...)
		return append(l, code.Instr{Op: code.Next, Node: i, Var: p.Of[i], Upto: upto, To: at + 1})
	}
	var l []code.Instr
	for _, word := range chapter[lineOf(p, i)] {
		l = append(l, filled(p, i, strings.Split(word, "-")))
	}
	return l
}

// filled is an instruction from its words.
func filled(p names.Program, i int, words []string) code.Instr {
	n := p.Tree.Nodes[i]
	x := code.Instr{Op: uint8(placeOf(opNames, words[0])), Node: i}
	for _, word := range words[1:] {
		switch word {
		case "t":
			x.Table = p.Of[n.Kids[0]]
		case "r", "row":
			x.Table, x.Row = p.Of[n.Kids[0]], word == "r"
			x.Key = termsAs(p, p.Tree.Nodes[n.Kids[0]].Kids[0])
		case "col":
			x.Col = p.Of[n.Kids[1]]
		case "var":
			x.Var = p.Of[i]
		case "vals":
			for _, kid := range n.Kids {
				if isExpr(p.Tree.Nodes[kid].Kind) {
					x.Vals = append(x.Vals, termsAs(p, kid))
				}
			}
		default:
			x.Mode = api.Mode(placeOf(modeNames, word))
		}
	}
	return x
}

func isExpr(kind uint8) bool { return tree.Number <= kind && kind <= tree.Neg }

func termsAs(p names.Program, i int) []code.Term {
	n := p.Tree.Nodes[i]
	var l []code.Term
	for _, kid := range n.Kids {
		l = append(l, termsAs(p, kid)...)
	}
	switch n.Kind {
	case tree.Number:
		return append(l, code.Term{Kind: code.Number, N: n.N})
	case tree.Var:
		return append(l, code.Term{Kind: code.Var, Var: p.Of[i]})
	}
	return append(l, code.Term{Kind: n.Kind - tree.Plus + code.Plus})
}

// Sources that are drawn, all of whose names are there.

// pen draws sources: two tables, t(c, d) and u(e), and procedures.
type pen struct {
	*rand.Rand
	vars  []string // those that may be assigned to
	loops []string
	count int // how many variables the procedure has
	deep  int // how many blocks may stand within one another
}

func (p *pen) source(procs int) string {
	src := "table t(c, d);\n"
	for i := range procs {
		if i == 1 {
			src += "table u(e);\n" // which the first one knows all the same
		}
		p.vars, p.loops, p.count = nil, nil, 0
		for range p.Intn(4) {
			p.declare()
		}
		src += fmt.Sprintf("proc p%d(%s) %s{\n%s}\n", i, strings.Join(p.vars, ", "), []string{"", "single "}[p.Intn(2)], p.block(p.deep, true))
	}
	if procs < 2 {
		src += "table u(e);\n"
	}
	return src
}

// declare is a new variable's name.
func (p *pen) declare() string {
	name := fmt.Sprintf("x%d", p.count)
	p.count++
	p.vars = append(p.vars, name)
	return name
}

// target is a variable to assign to: one that is there, or a new one.
func (p *pen) target() string {
	if len(p.vars) > 0 && p.Intn(2) == 0 || p.count > 50 && len(p.vars) > 0 {
		return p.vars[p.Intn(len(p.vars))]
	}
	return p.declare()
}

func (p *pen) block(deep int, isOwn bool) string {
	vars := len(p.vars)
	text := ""
	for range p.Intn(6) {
		if isOwn && p.Intn(5) == 0 {
			text += "chop;\n"
		}
		text += p.stmt(deep) + "\n"
	}
	p.vars = p.vars[:vars]
	return text
}

func (p *pen) nested(deep int) string {
	if deep == 0 {
		return "{ }"
	}
	return "{\n" + p.block(deep-1, false) + "}"
}

func (p *pen) expr(deep int) string {
	all := append(append([]string{}, p.vars...), p.loops...)
	switch kind := p.Intn(6); {
	case deep > 0 && kind < 2:
		return p.expr(deep-1) + []string{" + ", " - ", " * "}[p.Intn(3)] + "(" + p.expr(deep-1) + ")"
	case deep > 0 && kind == 2:
		return "-(" + p.expr(deep-1) + ")"
	case len(all) > 0 && kind < 5:
		return all[p.Intn(len(all))]
	}
	return fmt.Sprint(p.Intn(9))
}

// row is a row, and a column of its table.
func (p *pen) row() (row, col string) {
	if p.Intn(3) == 0 {
		return "u[" + p.expr(1) + "]", "e"
	}
	return "t[" + p.expr(1) + "]", []string{"c", "d"}[p.Intn(2)]
}

func (p *pen) stmt(deep int) string {
	row, col := p.row()
	table := row[:1]
	e, f := p.expr(2), p.expr(2)
	switch p.Intn(13) {
	case 0:
		return "read " + p.target() + " = " + row + "." + col + []string{"", " for update"}[p.Intn(2)] + ";"
	case 1:
		return "set " + row + "." + col + " = " + e + ";"
	case 2:
		if table == "u" {
			return "put " + row + "(" + e + ");"
		}
		return "put " + row + "(" + e + ", " + f + ");"
	case 3:
		return "delete " + row + ";"
	case 4:
		return "scan " + p.target() + " = " + table + "." + col + ";"
	case 5:
		return "lock " + table + []string{" shared;", " all;"}[p.Intn(2)]
	case 6:
		return "release " + []string{table, row}[p.Intn(2)] + ";"
	case 7, 8:
		text := "if " + e + []string{" < ", " == "}[p.Intn(2)] + f + " " + p.nested(deep)
		if p.Intn(2) == 0 {
			text += " else " + p.nested(deep)
		}
		return text
	case 9:
		return p.loop(deep)
	case 10:
		return "let " + p.target() + " = " + e + ";"
	case 11:
		return "emit " + e + ";"
	}
	return "rollback;"
}

func (p *pen) loop(deep int) string {
	if p.count > 50 {
		return "rollback;"
	}
	name := p.declare()
	p.vars = p.vars[:len(p.vars)-1]
	p.loops = append(p.loops, name)
	text := fmt.Sprintf("for %s = %d to %d %s", name, p.Intn(5), p.Intn(5), p.nested(deep))
	p.loops = p.loops[:len(p.loops)-1]
	return text
}
