package print_test

import (
	"math/rand"
	"regexp"
	"slices"
	"strconv"
	"strings"

	"interlock/tree"
)

// What the chapter says, written down a second time and by other means than the package's own, for the tests to hold the package against.

// chapterShapes has a line a kind, from 1 on: its name, how it is written with the number 0, and with the number 1, if that is another way.
// $T is the text, $N the number, $0 the first kid's text, $1- those from the second kid on in a list; a block's lines stand between two strokes.
const chapterShapes = `
Program  |
Table    | table $T($0-);
Proc     | proc $T($0) {/$1/} | proc $T($0) single {/$1/}
Names    | $0-
Word     | $T
Block    |
Read     | read $T = $0.$1;   | read $T = $0.$1 for update;
Set      | set $0.$1 = $2;
Put      | put $0($1-);
Delete   | delete $0;
Scan     | scan $T = $0.$1;
Lock     | lock $0 shared;    | lock $0 all;
Release  | release $0;
If       | if $0 < $1 {/$2/}  | if $0 == $1 {/$2/}
For      | for $T = $0 to $1 {/$2/}
Let      | let $T = $0;
Emit     | emit $0;
Rollback | rollback;
Chop     | chop;
Row      | $T[$0]
Number   | $N                 | $N
Var      | $T
Plus     | $0 + $1
Minus    | $0 - $1
Times    | $0 * $1
Neg      | -$0
`

// haveBrackets are the parts that have to stand in brackets: of what, the how maniest, and which.
const haveBrackets = " Neg.0.Plus Neg.0.Minus Neg.0.Times Times.0.Plus Times.0.Minus Times.1.Plus Times.1.Minus Times.1.Times Plus.1.Plus Plus.1.Minus Minus.1.Plus Minus.1.Minus "

type shape struct {
	name string
	ways []string
}

// shapes has the lines by kind; none at 0.
var shapes = readShapes()

func readShapes() []shape {
	all := []shape{{}}
	for _, text := range strings.Split(strings.TrimSpace(chapterShapes), "\n") {
		fields := strings.Split(text, "|")
		s := shape{name: strings.TrimSpace(fields[0])}
		for _, way := range fields[1:] {
			s.ways = append(s.ways, strings.TrimSpace(way))
		}
		all = append(all, s)
	}
	return all
}

// isExpr tells of kinds from Number on: these are the last ones.
func isExpr(kind uint8) bool { return kind >= tree.Number }

// reading reads a right tree by the chapter; with brackets that need not be, as many as are told of each expression.
type reading struct {
	nodes    []tree.Node
	needless func() int
}

var placeholder = regexp.MustCompile(`\$(T|N|[0-9]-?)`)

// text is what is written of the node at i, in brackets for the place k beneath the one at parent.
func (r reading) text(parent, k int) string {
	of, i := r.nodes[parent], r.nodes[parent].Kids[k]
	n := r.nodes[i]
	s := r.fill(i, shapes[n.Kind].ways[min(int(n.N), len(shapes[n.Kind].ways)-1)])
	around := 0
	if strings.Contains(haveBrackets, " "+shapes[of.Kind].name+"."+strconv.Itoa(k)+"."+shapes[n.Kind].name+" ") {
		around = 1
	}
	if isExpr(n.Kind) && of.Kind != tree.For {
		around += r.needless()
	}
	return strings.Repeat("(", around) + s + strings.Repeat(")", around)
}

// fill puts into a shape what the node at i has.
func (r reading) fill(i int, shape string) string {
	n := r.nodes[i]
	return placeholder.ReplaceAllStringFunc(shape, func(what string) string {
		switch what {
		case "$T":
			return n.Text
		case "$N":
			return strconv.FormatInt(n.N, 10)
		}
		if k := int(what[1] - '0'); !strings.HasSuffix(what, "-") {
			return r.text(i, k)
		}
		var list []string
		for k := int(what[1] - '0'); k < len(n.Kids); k++ {
			list = append(list, r.text(i, k))
		}
		return strings.Join(list, ", ")
	})
}

// lines are those of the node at i, of a part of the program or a statement.
func (r reading) lines(i int) []string {
	n := r.nodes[i]
	if n.Kind == tree.Program || n.Kind == tree.Block {
		var all []string
		for _, kid := range n.Kids {
			all = append(all, r.lines(kid)...)
		}
		return all
	}
	way := shapes[n.Kind].ways[n.N]
	if n.Kind == tree.If && len(n.Kids) == 4 {
		way = strings.TrimSuffix(way, "}") + "} else {/$3/}"
	}
	var all []string
	for at, piece := range strings.Split(way, "/") {
		if at%2 == 0 {
			all = append(all, r.fill(i, piece))
			continue
		}
		for _, l := range r.lines(n.Kids[piece[1]-'0']) {
			all = append(all, "\t"+l)
		}
	}
	return all
}

func none() int { return 0 }

// linesOf is what is to be printed of a right tree.
func linesOf(t tree.Tree) string {
	s := ""
	for _, l := range (reading{t.Nodes, none}).lines(0) {
		s += l + "\n"
	}
	return s
}

// textOf is the text of the expression or row at i: that of an emit's kid, brackets of its own place apart.
func textOf(t tree.Tree, i int) string {
	n := t.Nodes[i]
	return reading{t.Nodes, none}.fill(i, shapes[n.Kind].ways[min(int(n.N), len(shapes[n.Kind].ways)-1)])
}

// Trees by hand.

// sketch is a node with all beneath it.
type sketch struct {
	kind uint8
	text string
	n    int64
	kids []sketch
}

func sk(kind uint8, text string, n int64, kids ...sketch) sketch { return sketch{kind, text, n, kids} }

// bare is a node without text and number.
func bare(kind uint8, kids ...sketch) sketch { return sk(kind, "", 0, kids...) }

func num(n int64) sketch                       { return sk(tree.Number, "", n) }
func varOf(text string) sketch                 { return sk(tree.Var, text, 0) }
func word(text string) sketch                  { return sk(tree.Word, text, 0) }
func row(table string, key sketch) sketch      { return sk(tree.Row, table, 0, key) }
func table(name string, cols ...sketch) sketch { return sk(tree.Table, name, 0, cols...) }
func block(stmts ...sketch) sketch             { return bare(tree.Block, stmts...) }
func whole(parts ...sketch) sketch             { return bare(tree.Program, parts...) }

func proc(stmts ...sketch) sketch {
	return sk(tree.Proc, "p", 0, bare(tree.Names), block(stmts...))
}

func (s sketch) lay(nodes []tree.Node) []tree.Node {
	i := len(nodes)
	nodes = append(nodes, tree.Node{Kind: s.kind, Text: s.text, N: s.n})
	var kids []int
	for _, kid := range s.kids {
		kids = append(kids, len(nodes))
		nodes = kid.lay(nodes)
	}
	nodes[i].Kids = kids
	return nodes
}

func flat(s sketch) tree.Tree { return tree.Tree{Nodes: s.lay(nil)} }

// Trees that are drawn: each goes down as deep as is asked for along one way, and not much beside it.

// beneath has the kids of kinds with a choice of their own: expr is any expression; a * stands for any number of them, a ? for one or none.
var beneath = map[uint8]string{
	tree.Read: "Row Word", tree.Set: "Row Word expr", tree.Put: "Row expr expr*", tree.Delete: "Row", tree.Scan: "Word Word", tree.Lock: "Word",
	tree.If: "expr expr Block Block?", tree.For: "Number Number Block", tree.Let: "expr", tree.Emit: "expr", tree.Row: "expr",
	tree.Plus: "expr expr", tree.Minus: "expr expr", tree.Times: "expr expr", tree.Neg: "expr",
	tree.Table: "Word Word*", tree.Names: "Word*", tree.Block: "stmt*",
}

// pencil draws trees whose names are of these.
type pencil struct {
	*rand.Rand
	names []string
}

func (p pencil) pick(all ...uint8) uint8 { return all[p.Intn(len(all))] }

// program is just so deep.
func (p pencil) program(deep int) tree.Tree {
	s := whole()
	for range p.Intn(3) {
		s.kids = append(s.kids, p.part(min(deep, 1+p.Intn(2))))
	}
	if deep > 0 {
		s.kids = slices.Insert(s.kids, p.Intn(len(s.kids)+1), p.proc(deep))
	}
	return flat(s)
}

func (p pencil) part(deep int) sketch {
	if deep == 0 || p.Intn(3) == 0 {
		return p.node(tree.Table, 0)
	}
	return p.proc(deep)
}

func (p pencil) proc(deep int) sketch {
	return sk(tree.Proc, p.names[p.Intn(len(p.names))], p.Int63n(2), p.node(tree.Names, 0), p.node(tree.Block, deep-1))
}

// node draws one of that kind that goes down just so deep beneath itself.
func (p pencil) node(kind uint8, deep int) sketch {
	s := sketch{kind: kind}
	switch kind {
	case tree.Table, tree.Word, tree.Read, tree.Scan, tree.For, tree.Let, tree.Row, tree.Var:
		s.text = p.names[p.Intn(len(p.names))]
	case tree.Number:
		s.n = []int64{0, 1, 9, 10, 1<<31 - 1, p.Int63n(1 << 31)}[p.Intn(6)]
	}
	if kind == tree.Read || kind == tree.Lock || kind == tree.If {
		s.n = p.Int63n(2)
	}
	classes := p.classes(kind, deep)
	way := p.wayOf(classes, deep)
	for i, class := range classes {
		if i == way {
			s.kids = append(s.kids, p.kid(kind, class, deep))
		} else {
			s.kids = append(s.kids, p.kid(kind, class, min(deep, 1+p.Intn(2))))
		}
	}
	return s
}

// classes draws which kids stand beneath a kind.
func (p pencil) classes(kind uint8, deep int) []string {
	pattern := beneath[kind]
	if kind == tree.Release {
		pattern = "Word"
		if deep > 0 {
			pattern = "Row"
		}
	}
	var all []string
	for _, class := range strings.Fields(pattern) {
		count := 1
		if strings.HasSuffix(class, "*") {
			count = p.Intn(4)
		} else if strings.HasSuffix(class, "?") {
			count = p.Intn(2)
		}
		for range count {
			all = append(all, strings.TrimRight(class, "*?"))
		}
	}
	if kind == tree.Block && deep > 0 && len(all) == 0 {
		all = append(all, "stmt")
	}
	return all
}

// wayOf draws the kid along which it goes down; -1, where it does not.
func (p pencil) wayOf(classes []string, deep int) int {
	var ways []int
	for i, class := range classes {
		if class == "stmt" || class == "expr" || class == "Row" || class == "Block" {
			ways = append(ways, i)
		}
	}
	if deep == 0 || len(ways) == 0 {
		return -1
	}
	return ways[p.Intn(len(ways))]
}

// kid draws one of a class, with which it goes down so deep beneath its parent.
func (p pencil) kid(parent uint8, class string, deep int) sketch {
	switch class {
	case "Word":
		return p.node(tree.Word, 0)
	case "Number":
		return p.node(tree.Number, 0)
	case "Row":
		return p.node(tree.Row, deep-1)
	case "Block":
		return p.node(tree.Block, deep-1)
	case "stmt":
		return p.stmt(deep)
	}
	if isExpr(parent) {
		deep--
	}
	if deep <= 0 {
		return p.node(p.pick(tree.Number, tree.Var), 0)
	}
	return p.node(p.pick(tree.Plus, tree.Minus, tree.Times, tree.Neg), deep)
}

func (p pencil) stmt(deep int) sketch {
	switch {
	case deep == 0:
		return p.node(p.pick(tree.Scan, tree.Lock, tree.Release, tree.Let, tree.Emit, tree.Rollback, tree.Chop), 0)
	case deep > 2 && p.Intn(8) > 0:
		return p.node(p.pick(tree.If, tree.For), deep)
	}
	return p.node(p.pick(tree.Read, tree.Set, tree.Put, tree.Delete, tree.Release, tree.If, tree.For, tree.Let, tree.Emit), deep)
}
