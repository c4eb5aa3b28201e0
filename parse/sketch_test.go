package parse_test

import (
	"fmt"
	"math/rand"
	"strconv"
	"strings"

	"interlock/tree"
)

// Trees that are drawn and written as sources in one of the many ways: read again, they are to be the same, each node where it was written.

// sketch is a node with all beneath it.
type sketch struct {
	kind uint8
	text string
	n    int64
	at   int
	kids []*sketch
}

// lay puts a sketch in one row.
func (s *sketch) lay(nodes []tree.Node) []tree.Node {
	i := len(nodes)
	nodes = append(nodes, tree.Node{Kind: s.kind, At: s.at, Text: s.text, N: s.n})
	for _, kid := range s.kids {
		nodes[i].Kids = append(nodes[i].Kids, len(nodes))
		nodes = kid.lay(nodes)
	}
	return nodes
}

func (s *sketch) tree() tree.Tree { return tree.Tree{Nodes: s.lay(nil)} }

// pencil draws sketches whose names are of these.
type pencil struct {
	*rand.Rand
	names []string
}

func (p pencil) name() string { return p.names[p.Intn(len(p.names))] }

func (p pencil) word() *sketch { return &sketch{kind: tree.Word, text: p.name()} }

func (p pencil) program(parts, deep int) *sketch {
	s := &sketch{kind: tree.Program}
	for range parts {
		if p.Intn(3) == 0 {
			s.kids = append(s.kids, &sketch{kind: tree.Table, text: p.name(), kids: p.words(1)})
		} else {
			names := &sketch{kind: tree.Names, kids: p.words(0)}
			s.kids = append(s.kids, &sketch{kind: tree.Proc, text: p.name(), n: p.Int63n(2), kids: []*sketch{names, p.block(deep)}})
		}
	}
	return s
}

func (p pencil) words(least int) []*sketch {
	var all []*sketch
	for range least + p.Intn(3) {
		all = append(all, p.word())
	}
	return all
}

func (p pencil) block(deep int) *sketch {
	s := &sketch{kind: tree.Block}
	for range p.Intn(4) {
		s.kids = append(s.kids, p.stmt(deep))
	}
	return s
}

func (p pencil) row(deep int) *sketch {
	return &sketch{kind: tree.Row, text: p.name(), kids: []*sketch{p.expr(deep)}}
}

func (p pencil) stmt(deep int) *sketch {
	s := &sketch{kind: tree.Read + uint8(p.Intn(int(tree.Chop-tree.Read)+1))}
	switch s.kind {
	case tree.Read, tree.Scan, tree.For, tree.Let:
		s.text = p.name()
	}
	switch s.kind {
	case tree.Read, tree.Lock, tree.If:
		s.n = p.Int63n(2)
	}
	deep--
	switch s.kind {
	case tree.Read:
		s.kids = []*sketch{p.row(deep), p.word()}
	case tree.Set:
		s.kids = []*sketch{p.row(deep), p.word(), p.expr(deep)}
	case tree.Put:
		s.kids = []*sketch{p.row(deep), p.expr(deep)}
		for range p.Intn(3) {
			s.kids = append(s.kids, p.expr(deep))
		}
	case tree.Delete:
		s.kids = []*sketch{p.row(deep)}
	case tree.Scan:
		s.kids = []*sketch{p.word(), p.word()}
	case tree.Lock:
		s.kids = []*sketch{p.word()}
	case tree.Release:
		s.kids = []*sketch{p.word()}
		if p.Intn(2) == 0 {
			s.kids = []*sketch{p.row(deep)}
		}
	case tree.If:
		s.kids = []*sketch{p.expr(deep), p.expr(deep), p.nested(deep)}
		if p.Intn(2) == 0 {
			s.kids = append(s.kids, p.nested(deep))
		}
	case tree.For:
		s.kids = []*sketch{p.number(), p.number(), p.nested(deep)}
	case tree.Let, tree.Emit:
		s.kids = []*sketch{p.expr(deep)}
	}
	return s
}

// nested is a block, an empty one where it is deep.
func (p pencil) nested(deep int) *sketch {
	if deep <= 0 {
		return &sketch{kind: tree.Block}
	}
	return p.block(deep)
}

func (p pencil) number() *sketch {
	return &sketch{kind: tree.Number, n: []int64{0, 1, 2, 9, 10, 2147483647, p.Int63n(1 << 31)}[p.Intn(7)]}
}

func (p pencil) expr(deep int) *sketch {
	k := tree.Number + uint8(p.Intn(int(tree.Neg-tree.Number)+1))
	switch {
	case deep <= 0 || k == tree.Number:
		return p.number()
	case k == tree.Var:
		return &sketch{kind: k, text: p.name()}
	case k == tree.Neg:
		return &sketch{kind: k, kids: []*sketch{p.expr(deep - 1)}}
	}
	return &sketch{kind: k, kids: []*sketch{p.expr(deep - 1), p.expr(deep - 1)}}
}

// pen writes a sketch, and marks in it where each node is.
type pen struct {
	src      []byte
	isNumber bool          // what was written last
	filler   func() string // what stands ahead of a token
	brackets func() int    // how many brackets that need not be stand around an expression
}

// sparing writes no more than has to be.
func sparing() *pen {
	return &pen{filler: func() string { return "" }, brackets: func() int { return 0 }}
}

var fillers = []string{"", "", "", " ", "\t", "\r\n", "\n\n ", "#\n", "# } ; proc\n", " #a#b\n\t"}

// lavish writes blanks, remarks and brackets wherever they may be.
func lavish(r *rand.Rand) *pen {
	return &pen{
		filler:   func() string { return fillers[r.Intn(len(fillers))] },
		brackets: func() int { return max(0, r.Intn(6)-3) },
	}
}

func inName(b byte) bool {
	return b == '_' || '0' <= b && b <= '9' || 'a' <= b && b <= 'z'
}

// write writes a token, and tells where it begins. A number ends by itself where a letter stands behind it, a name does not.
func (p *pen) write(text string) int {
	filler := p.filler()
	if n := len(p.src); n > 0 && filler == "" && inName(p.src[n-1]) && inName(text[0]) && !(p.isNumber && text[0] >= 'a') {
		filler = " "
	}
	p.src = append(p.src, filler...)
	at := len(p.src)
	p.src = append(p.src, text...)
	p.isNumber = '0' <= text[0] && text[0] <= '9'
	return at
}

func (p *pen) writeAll(text string) {
	for _, token := range strings.Fields(text) {
		p.write(token)
	}
}

func (p *pen) program(s *sketch) []byte {
	for _, kid := range s.kids {
		p.part(kid)
	}
	p.src = append(p.src, p.filler()...)
	s.at = len(p.src)
	if len(s.kids) > 0 {
		s.at = s.kids[0].at
	}
	return p.src
}

func (p *pen) part(s *sketch) {
	if s.kind == tree.Table {
		s.at = p.write("table")
		p.write(s.text)
		p.write("(")
		p.list(s.kids)
		p.writeAll(") ;")
		return
	}
	s.at = p.write("proc")
	p.write(s.text)
	p.write("(")
	names := s.kids[0]
	p.list(names.kids)
	names.at = p.write(")")
	if len(names.kids) > 0 {
		names.at = names.kids[0].at
	}
	if s.n == 1 {
		p.write("single")
	}
	p.block(s.kids[1])
}

// list writes words or expressions with a comma between them.
func (p *pen) list(all []*sketch) {
	for i, s := range all {
		if i > 0 {
			p.write(",")
		}
		if s.kind == tree.Word {
			p.word(s)
		} else {
			p.expr(s, 1)
		}
	}
}

func (p *pen) word(s *sketch) { s.at = p.write(s.text) }

func (p *pen) block(s *sketch) {
	s.at = p.write("{")
	for _, kid := range s.kids {
		p.stmt(kid)
	}
	p.write("}")
}

func (p *pen) row(s *sketch) {
	s.at = p.write(s.text)
	p.write("[")
	p.expr(s.kids[0], 1)
	p.write("]")
}

var firstWords = map[uint8]string{
	tree.Read: "read", tree.Set: "set", tree.Put: "put", tree.Delete: "delete", tree.Scan: "scan", tree.Lock: "lock",
	tree.Release: "release", tree.If: "if", tree.For: "for", tree.Let: "let", tree.Emit: "emit", tree.Rollback: "rollback", tree.Chop: "chop",
}

func (p *pen) stmt(s *sketch) {
	s.at = p.write(firstWords[s.kind])
	if s.text != "" {
		p.write(s.text)
		p.write("=")
	}
	switch s.kind {
	case tree.If:
		p.expr(s.kids[0], 1)
		p.write([]string{"<", "=="}[s.n])
		p.expr(s.kids[1], 1)
		p.block(s.kids[2])
		if len(s.kids) > 3 {
			p.write("else")
			p.block(s.kids[3])
		}
		return
	case tree.For:
		p.number(s.kids[0])
		p.write("to")
		p.number(s.kids[1])
		p.block(s.kids[2])
		return
	}
	p.inside(s)
	p.write(";")
}

// inside writes what stands between a simple statement's beginning and its end.
func (p *pen) inside(s *sketch) {
	switch s.kind {
	case tree.Read, tree.Set:
		p.row(s.kids[0])
		p.write(".")
		p.word(s.kids[1])
		if s.kind == tree.Set {
			p.write("=")
			p.expr(s.kids[2], 1)
		} else if s.n == 1 {
			p.writeAll("for update")
		}
	case tree.Put:
		p.row(s.kids[0])
		p.write("(")
		p.list(s.kids[1:])
		p.write(")")
	case tree.Scan:
		p.word(s.kids[0])
		p.write(".")
		p.word(s.kids[1])
	case tree.Lock:
		p.word(s.kids[0])
		p.write([]string{"shared", "all"}[s.n])
	case tree.Delete, tree.Release:
		if s.kids[0].kind == tree.Word {
			p.word(s.kids[0])
		} else {
			p.row(s.kids[0])
		}
	case tree.Let, tree.Emit:
		p.expr(s.kids[0], 1)
	}
}

func (p *pen) number(s *sketch) { s.at = p.write(strconv.FormatInt(s.n, 10)) }

// tightness: what is looser than its place allows has to stand in brackets.
func tightness(kind uint8) int {
	switch kind {
	case tree.Plus, tree.Minus:
		return 1
	case tree.Times:
		return 2
	}
	return 3
}

func (p *pen) expr(s *sketch, tight int) {
	around := p.brackets()
	if tightness(s.kind) < tight {
		around++
	}
	for range around {
		p.write("(")
	}
	switch own := tightness(s.kind); s.kind {
	case tree.Number:
		p.number(s)
	case tree.Var:
		p.word(s)
	case tree.Neg:
		s.at = p.write("-")
		p.expr(s.kids[0], 3)
	default:
		p.expr(s.kids[0], own)
		s.at = s.kids[0].at
		p.write(map[uint8]string{tree.Plus: "+", tree.Minus: "-", tree.Times: "*"}[s.kind])
		p.expr(s.kids[1], own+1)
	}
	for range around {
		p.write(")")
	}
}

// Trees as lines, for tests that are written by hand.

var kindNames = strings.Fields("- Program Table Proc Names Word Block Read Set Put Delete Scan Lock Release If For Let Emit Rollback Chop Row Number Var Plus Minus Times Neg")

// line tells the node at i, and all beneath it: Kind@where:text=number(kids). Places are told from base on.
func line(t tree.Tree, i, base int) string {
	n := t.Nodes[i]
	s := fmt.Sprintf("%s@%d", kindNames[n.Kind], n.At-base)
	if n.Text != "" {
		s += ":" + n.Text
	}
	if n.N != 0 || n.Kind == tree.Number {
		s += fmt.Sprintf("=%d", n.N)
	}
	var kids []string
	for _, kid := range n.Kids {
		kids = append(kids, line(t, kid, base))
	}
	if len(kids) > 0 {
		s += "(" + strings.Join(kids, " ") + ")"
	}
	return s
}

// bracketed tells an expression with brackets around each that has parts.
func bracketed(t tree.Tree, i int) string {
	n := t.Nodes[i]
	part := func(k int) string { return bracketed(t, n.Kids[k]) }
	switch n.Kind {
	case tree.Number:
		return strconv.FormatInt(n.N, 10)
	case tree.Var:
		return n.Text
	case tree.Plus:
		return "(" + part(0) + "+" + part(1) + ")"
	case tree.Minus:
		return "(" + part(0) + "-" + part(1) + ")"
	case tree.Times:
		return "(" + part(0) + "*" + part(1) + ")"
	case tree.Neg:
		return "(-" + part(0) + ")"
	}
	return "?"
}
