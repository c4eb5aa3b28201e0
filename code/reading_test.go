package code_test

import (
	"math/big"
	"reflect"
	"slices"
	"strings"

	"interlock/api"
	"interlock/code"
	"interlock/names"
	"interlock/tree"
)

// What the chapter says, read a second time and by other means than the package's own, for the tests to hold the package
// against.

// wrapped is a number of any size brought into 64 bits.
func wrapped(x *big.Int) int64 {
	low := new(big.Int).And(x, new(big.Int).SetUint64(1<<64-1))
	return int64(low.Uint64())
}

// readBack reads terms from the last one on, as what a term takes is told right ahead of it: the number that they tell, and
// the terms ahead that they did not need.
func readBack(l []code.Term, vars []int64) (x *big.Int, ahead []code.Term, ok bool) {
	if len(l) == 0 {
		return nil, nil, false
	}
	last, l := l[len(l)-1], l[:len(l)-1]
	if last.Kind == code.Number {
		return big.NewInt(last.N), l, true
	}
	if last.Kind == code.Var {
		if last.Var < 0 || last.Var >= len(vars) {
			return nil, nil, false
		}
		return big.NewInt(vars[last.Var]), l, true
	}
	upper, l, ok := readBack(l, vars)
	if !ok {
		return nil, nil, false
	}
	if last.Kind == code.Neg {
		return upper.Neg(upper), l, true
	}
	lower, l, ok := readBack(l, vars)
	if !ok {
		return nil, nil, false
	}
	switch last.Kind {
	case code.Plus:
		return lower.Add(lower, upper), l, true
	case code.Minus:
		return lower.Sub(lower, upper), l, true
	case code.Times:
		return lower.Mul(lower, upper), l, true
	}
	return nil, nil, false
}

// evalAs tells what a reckoning tells, by the second reading.
func evalAs(l []code.Term, vars []int64) (int64, bool) {
	x, ahead, ok := readBack(l, vars)
	if !ok || len(ahead) > 0 {
		return 0, false
	}
	return wrapped(x), true
}

// termsAs are the terms of an expression of a resolved program, whose tree is not deep.
func termsAs(p names.Program, i int) []code.Term {
	n := p.Tree.Nodes[i]
	var l []code.Term
	for _, kid := range n.Kids {
		l = append(l, termsAs(p, kid)...)
	}
	switch n.Kind {
	case tree.Number:
		return append(l, code.Term{Kind: code.Number, N: n.N})
	case tree.Var:
		return append(l, code.Term{Kind: code.Var, Var: p.Of[i]})
	}
	kinds := map[uint8]uint8{tree.Plus: code.Plus, tree.Minus: code.Minus, tree.Times: code.Times, tree.Neg: code.Neg}
	return append(l, code.Term{Kind: kinds[n.Kind]})
}

// chapterTable has a line an instruction, from 1 on: its fields, and how many Vals it has (a * for as many as columns).
const chapterTable = `
Ask      | Mode Table Row/Key    | 0
Free     | Table Row/Key         | 0
Read     | Table Key Col Var     | 0
Set      | Table Key Col         | 1
Put      | Table Key             | *
Delete   | Table Key             | 0
Scan     | Table Col Var         | 0
Let      | Var                   | 1
Emit     |                       | 1
Jump     | To                    | 0
Unless   | Equal To              | 2
Begin    | Var From Upto To      | 0
Next     | Var Upto To           | 0
Rollback |                       | 0
Piece    |                       | 0
End      |                       | 0
`

// line is what the chapter says of an instruction.
type line struct {
	name   string
	fields []string
	byRow  bool // there is a Key, if Row
	vals   string
}

// chapter has the lines by Op; none at 0.
var chapter = readChapter()

func readChapter() []line {
	lines := []line{{}}
	for _, text := range strings.Split(strings.TrimSpace(chapterTable), "\n") {
		cells := strings.Split(text, "|")
		l := line{name: strings.TrimSpace(cells[0]), fields: strings.Fields(cells[1]), vals: strings.TrimSpace(cells[2])}
		if i := slices.Index(l.fields, "Row/Key"); i >= 0 {
			l.fields[i], l.byRow = "Row", true
		}
		lines = append(lines, l)
	}
	return lines
}

// allFields are those of an instruction that Op tells whether they are named, but for Vals.
func allFields() []string {
	all := []string{}
	for _, f := range reflect.VisibleFields(reflect.TypeFor[code.Instr]()) {
		if f.Name != "Op" && f.Name != "Node" && f.Name != "Vals" {
			all = append(all, f.Name)
		}
	}
	return all
}

func (l line) names(x code.Instr, field string) bool {
	return slices.Contains(l.fields, field) || field == "Key" && l.byRow && x.Row
}

// mayBe tells whether a field that is named is as it may be.
func mayBe(x code.Instr, field string, places int, tables []int, vars int) bool {
	in := func(i, most int) bool { return i >= 0 && i < most }
	switch field {
	case "Mode":
		return x.Mode == api.S || x.Mode == api.X || !x.Row && (x.Mode == api.IS || x.Mode == api.IX)
	case "Table":
		return in(x.Table, len(tables))
	case "Col":
		return in(x.Table, len(tables)) && in(x.Col, tables[x.Table])
	case "Var":
		return in(x.Var, vars)
	case "To":
		return in(x.To, places)
	case "Key":
		return isReckoningAs(x.Key, vars)
	}
	return true
}

func isReckoningAs(l []code.Term, vars int) bool {
	_, ok := evalAs(l, make([]int64, max(vars, 0)))
	return ok
}

func isNought(v reflect.Value) bool { return v.IsZero() || v.Kind() == reflect.Slice && v.Len() == 0 }

// isAsTold tells whether an instruction is as its line says.
func isAsTold(x code.Instr, places int, tables []int, vars int) bool {
	if x.Op == 0 || int(x.Op) >= len(chapter) {
		return false
	}
	l := chapter[x.Op]
	for _, field := range allFields() {
		if l.names(x, field) && !mayBe(x, field, places, tables, vars) {
			return false
		}
		if !l.names(x, field) && !isNought(reflect.ValueOf(x).FieldByName(field)) {
			return false
		}
	}
	for _, value := range x.Vals {
		if !isReckoningAs(value, vars) {
			return false
		}
	}
	if l.vals == "*" {
		return len(x.Vals) == tables[x.Table]
	}
	return len(x.Vals) == int(l.vals[0]-'0')
}

// rightAs tells whether instructions are right, by the second reading.
func rightAs(l []code.Instr, tables []int, vars int) bool {
	for i, x := range l {
		if !isAsTold(x, len(l), tables, vars) || (x.Op == code.End) != (i == len(l)-1) {
			return false
		}
		if x.Op != code.Piece {
			continue
		}
		for k, y := range l {
			if !slices.Contains(chapter[min(int(y.Op), 16)].fields, "To") {
				continue
			}
			if k < i && y.To > i || k > i && y.To <= i {
				return false
			}
		}
	}
	return len(l) > 0
}
