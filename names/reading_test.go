package names_test

import (
	"math/rand"
	"strings"

	"interlock/api"
	"interlock/names"
	"interlock/tree"
)

// What the chapter says, read a second time and by other means than the package's own, for the tests to hold the package
// against: a procedure is first written down as a row of deeds, in the order in which it is read; then these are done.

// deed is what is done with a node when a procedure is read.
type deed struct {
	what string
	node int
}

// entry is a variable that is there.
type entry struct {
	name           string
	number, blocks int
	isLoop         bool
}

// reading reads a right tree by the chapter.
type reading struct {
	nodes []tree.Node
	deeds []deed
	of    []int
	// What is wrong, if something is.
	err api.Errno
	at  int
}

// readAs is the program of a right tree; or the error, and the node that it is at.
func readAs(t tree.Tree) (p names.Program, err api.Errno, node int) {
	r := &reading{nodes: t.Nodes, of: make([]int, len(t.Nodes)), at: -1}
	for i := range r.of {
		r.of[i] = -1
	}
	p = names.Program{Tree: t, Of: r.of}
	cols := map[string][]string{}
	for _, i := range t.Nodes[0].Kids {
		if t.Nodes[i].Kind == tree.Table {
			r.countTable(&p, cols, i)
		} else {
			r.countProc(&p, i)
		}
	}
	for n := range p.Procs {
		r.readProc(&p, n)
	}
	if r.err != api.OK {
		return names.Program{}, r.err, r.at
	}
	return p, api.OK, -1
}

// say keeps the first error.
func (r *reading) say(err api.Errno, node int) {
	if r.err == api.OK {
		r.err, r.at = err, node
	}
}

func (r *reading) countTable(p *names.Program, cols map[string][]string, i int) {
	n := r.nodes[i]
	table := names.Table{Name: n.Text}
	for _, other := range p.Tables {
		if other.Name == n.Text {
			r.say(api.ErrTwice, i)
		}
	}
	if len(p.Tables) >= 64 || len(n.Kids) > 16 {
		r.say(api.ErrLimit, i)
	}
	for number, kid := range n.Kids {
		for _, ahead := range table.Cols {
			if ahead == r.nodes[kid].Text {
				r.say(api.ErrTwice, kid)
			}
		}
		table.Cols = append(table.Cols, r.nodes[kid].Text)
		r.of[kid] = number
	}
	r.of[i] = len(p.Tables)
	p.Tables = append(p.Tables, table)
}

func (r *reading) countProc(p *names.Program, i int) {
	n := r.nodes[i]
	for _, other := range p.Procs {
		if other.Name == n.Text {
			r.say(api.ErrTwice, i)
		}
	}
	if len(p.Procs) >= 64 {
		r.say(api.ErrLimit, i)
	}
	r.of[i] = len(p.Procs)
	p.Procs = append(p.Procs, names.Proc{Name: n.Text, Params: len(r.nodes[n.Kids[0]].Kids), Single: n.N == 1, Root: i})
}

// orders tells of each kind what is done when a node of it is read, in order: a word and the kid with which it is done (- for the node itself).
var orders = map[uint8]string{
	tree.Block:    "open- kids- close-",
	tree.Read:     "key0 column1 named-",
	tree.Set:      "key0 column1 expr2",
	tree.Put:      "table0 arity- key0 kids-",
	tree.Delete:   "key0",
	tree.Scan:     "table0 column1 named-",
	tree.Lock:     "table0",
	tree.If:       "expr0 expr1 expr2 expr3",
	tree.For:      "open- loop- expr0 expr1 expr2 close-",
	tree.Let:      "expr0 named-",
	tree.Emit:     "expr0",
	tree.Chop:     "chop-",
	tree.Var:      "var-",
	tree.Plus:     "expr0 expr1",
	tree.Minus:    "expr0 expr1",
	tree.Times:    "expr0 expr1",
	tree.Neg:      "expr0",
	tree.Row:      "table- expr0",
	tree.Word:     "table-",
	tree.Release:  "expr0",
	tree.Rollback: "",
	tree.Number:   "",
}

// write writes down the deeds of a node.
func (r *reading) write(i int) {
	n := r.nodes[i]
	for _, order := range strings.Fields(orders[n.Kind]) {
		word, place := order[:len(order)-1], order[len(order)-1]
		node := i
		if place != '-' {
			if int(place-'0') >= len(n.Kids) {
				continue
			}
			node = n.Kids[place-'0']
		}
		switch word {
		case "key", "expr":
			r.write(node)
		case "kids":
			for _, kid := range n.Kids {
				if r.nodes[kid].Kind != tree.Row {
					r.write(kid)
				}
			}
		default:
			r.deeds = append(r.deeds, deed{word, node})
		}
	}
}

func (r *reading) readProc(p *names.Program, number int) {
	proc := &p.Procs[number]
	n := r.nodes[proc.Root]
	var there []entry
	blocks, table := 0, 0
	find := func(name string) *entry {
		for i := len(there) - 1; i >= 0; i-- {
			if there[i].name == name {
				return &there[i]
			}
		}
		return nil
	}
	declare := func(node int, isLoop bool) {
		if len(proc.Vars) >= 64 {
			r.say(api.ErrLimit, node)
		}
		name := r.nodes[node].Text
		r.of[node] = len(proc.Vars)
		there = append(there, entry{name, len(proc.Vars), blocks, isLoop})
		proc.Vars = append(proc.Vars, name)
	}
	for _, word := range r.nodes[n.Kids[0]].Kids {
		if find(r.nodes[word].Text) != nil {
			r.say(api.ErrTwice, word)
		}
		declare(word, false)
	}
	r.deeds = nil
	r.write(n.Kids[1])
	for _, d := range r.deeds {
		name := r.nodes[d.node].Text
		switch d.what {
		case "open":
			blocks++
		case "close":
			for len(there) > 0 && there[len(there)-1].blocks == blocks {
				there = there[:len(there)-1]
			}
			blocks--
		case "table":
			table = tableOf(*p, name)
			if table < 0 {
				r.say(api.ErrName, d.node)
				return
			}
			r.of[d.node] = table
		case "column":
			r.of[d.node] = columnOf(p.Tables[table], name)
			if r.of[d.node] < 0 {
				r.say(api.ErrName, d.node)
			}
		case "arity":
			r.of[d.node] = table
			if len(r.nodes[d.node].Kids) != 1+len(p.Tables[table].Cols) {
				r.say(api.ErrArity, d.node)
			}
		case "var":
			v := find(name)
			if v == nil {
				r.say(api.ErrName, d.node)
				return
			}
			r.of[d.node] = v.number
		case "named":
			v := find(name)
			switch {
			case v == nil:
				declare(d.node, false)
			case v.isLoop:
				r.say(api.ErrTwice, d.node)
			default:
				r.of[d.node] = v.number
			}
		case "loop":
			if find(name) != nil {
				r.say(api.ErrTwice, d.node)
			}
			declare(d.node, true)
		case "chop":
			if blocks != 1 {
				r.say(api.ErrChop, d.node)
			}
		}
	}
}

func tableOf(p names.Program, name string) int {
	for i, table := range p.Tables {
		if table.Name == name {
			return i
		}
	}
	return -1
}

func columnOf(table names.Table, name string) int {
	for i, col := range table.Cols {
		if col == name {
			return i
		}
	}
	return -1
}

// Trees by hand.

// sketch is a node with all beneath it.
type sketch struct {
	kind uint8
	text string
	n    int64
	kids []sketch
}

func sk(kind uint8, text string, n int64, kids ...sketch) sketch { return sketch{kind, text, n, kids} }

// bare is a node without text and number.
func bare(kind uint8, kids ...sketch) sketch { return sk(kind, "", 0, kids...) }

func num(n int64) sketch                       { return sk(tree.Number, "", n) }
func varOf(text string) sketch                 { return sk(tree.Var, text, 0) }
func word(text string) sketch                  { return sk(tree.Word, text, 0) }
func row(table string, key sketch) sketch      { return sk(tree.Row, table, 0, key) }
func table(name string, cols ...sketch) sketch { return sk(tree.Table, name, 0, cols...) }
func block(stmts ...sketch) sketch             { return bare(tree.Block, stmts...) }
func whole(parts ...sketch) sketch             { return bare(tree.Program, parts...) }

func proc(stmts ...sketch) sketch {
	return sk(tree.Proc, "p", 0, bare(tree.Names), block(stmts...))
}

// inProc is a whole with the table t(c), and a procedure with these statements: its block is the node 5.
func inProc(stmts ...sketch) tree.Tree { return flat(whole(table("t", word("c")), proc(stmts...))) }

func (s sketch) lay(nodes []tree.Node) []tree.Node {
	i := len(nodes)
	nodes = append(nodes, tree.Node{Kind: s.kind, Text: s.text, N: s.n})
	var kids []int
	for _, kid := range s.kids {
		kids = append(kids, len(nodes))
		nodes = kid.lay(nodes)
	}
	nodes[i].Kids = kids
	return nodes
}

func flat(s sketch) tree.Tree { return tree.Tree{Nodes: s.lay(nil)} }

// Programs that are drawn: most of their names are there; some few are not, or there already.

// pencil draws programs. It knows what is there, and takes something else once in so many times.
type pencil struct {
	*rand.Rand
	slips int
	cols  [][]string
	vars  []string
	loops []string
	total int
}

var someVars = []string{"a", "b", "c", "d", "t", "x1", "i", "j", "k"}

func (p *pencil) slip() bool              { return p.Intn(p.slips) == 0 }
func (p *pencil) of(all ...string) string { return all[p.Intn(len(all))] }

func (p *pencil) program() tree.Tree {
	p.cols = nil
	var parts []sketch
	for i := range 1 + p.Intn(3) {
		parts = append(parts, p.table(i))
	}
	for i := range p.Intn(4) {
		parts = append(parts, p.proc(i))
	}
	p.Shuffle(len(parts), func(i, j int) { parts[i], parts[j] = parts[j], parts[i] })
	return flat(whole(parts...))
}

func (p *pencil) table(i int) sketch {
	if i > 0 && p.slip() {
		i--
	}
	s := table([]string{"t", "u", "a"}[i])
	count := 1 + p.Intn(4)
	if p.slip() {
		count = 16 + p.Intn(2)
	}
	var cols []string
	for k := range count {
		if k > 0 && p.slip() {
			k--
		}
		name := "c"
		if k > 0 {
			name = "c" + strings.Repeat("c", k)
		}
		cols = append(cols, name)
		s.kids = append(s.kids, word(name))
	}
	p.cols = append(p.cols, cols)
	return s
}

func (p *pencil) proc(i int) sketch {
	if i > 0 && p.slip() {
		i--
	}
	params := bare(tree.Names)
	p.vars, p.loops, p.total = nil, nil, 0
	for _, k := range p.Perm(len(someVars))[:p.Intn(4)] {
		p.vars = append(p.vars, someVars[k])
		params.kids = append(params.kids, word(someVars[k]))
		if p.slip() {
			params.kids = append(params.kids, word(someVars[k]))
		}
	}
	return sk(tree.Proc, []string{"p", "t", "a"}[i], p.Int63n(2), params, p.block(4+p.Intn(4), true))
}

// block draws a block within which others may stand so deep.
func (p *pencil) block(deep int, isOwn bool) sketch {
	vars, loops := len(p.vars), len(p.loops)
	defer func() { p.vars, p.loops = p.vars[:vars], p.loops[:loops] }()
	s := block()
	for range p.Intn(6) {
		if isOwn && p.Intn(8) == 0 || p.Intn(8) == 0 && p.slip() {
			s.kids = append(s.kids, bare(tree.Chop))
		}
		s.kids = append(s.kids, p.stmt(deep))
	}
	return s
}

// name draws a variable that may be assigned to, and knows it from now on.
func (p *pencil) name() string {
	if len(p.loops) > 0 && p.slip() {
		return p.of(p.loops...)
	}
	name := p.of(someVars...)
	for has(p.loops, name) {
		name += "_"
	}
	return name
}

func (p *pencil) known(s sketch) sketch {
	if !has(p.vars, s.text) {
		p.vars = append(p.vars, s.text)
	}
	return s
}

func has(all []string, name string) bool {
	for _, x := range all {
		if x == name {
			return true
		}
	}
	return false
}

// tableAt draws a table, by its number and by its name.
func (p *pencil) tableAt() (int, string) {
	i := p.Intn(len(p.cols))
	if p.slip() {
		return i, p.of("v", "c", "p")
	}
	return i, []string{"t", "u", "a"}[i]
}

func (p *pencil) column(i int) sketch {
	if p.slip() {
		return word(p.of("b", "t", "c", "cc"))
	}
	return word(p.of(p.cols[i]...))
}

func (p *pencil) row() (int, sketch) {
	i, name := p.tableAt()
	return i, row(name, p.expr(2))
}

func (p *pencil) expr(deep int) sketch {
	if deep > 0 && p.Intn(3) == 0 {
		kind := tree.Plus + uint8(p.Intn(4))
		if kind == tree.Neg {
			return bare(kind, p.expr(deep-1))
		}
		return bare(kind, p.expr(deep-1), p.expr(deep-1))
	}
	all := append(append([]string{}, p.vars...), p.loops...)
	if p.slip() {
		all = someVars
	}
	if len(all) == 0 || p.Intn(4) == 0 {
		return num(p.Int63n(9))
	}
	return varOf(p.of(all...))
}

func (p *pencil) stmt(deep int) sketch {
	kind := tree.Read + uint8(p.Intn(int(tree.Rollback-tree.Read)+1))
	switch kind {
	case tree.Read:
		i, r := p.row()
		col := p.column(i)
		return p.known(sk(kind, p.name(), p.Int63n(2), r, col))
	case tree.Set:
		i, r := p.row()
		return bare(kind, r, p.column(i), p.expr(2))
	case tree.Put:
		i, r := p.row()
		s := bare(kind, r)
		count := len(p.cols[i])
		if p.slip() {
			count = 1 + p.Intn(5)
		}
		for range count {
			s.kids = append(s.kids, p.expr(2))
		}
		return s
	case tree.Delete:
		_, r := p.row()
		return bare(kind, r)
	case tree.Scan:
		i, name := p.tableAt()
		col := p.column(i)
		return p.known(sk(kind, p.name(), 0, word(name), col))
	case tree.Lock:
		_, name := p.tableAt()
		return sk(kind, "", p.Int63n(2), word(name))
	case tree.Release:
		if _, name := p.tableAt(); p.Intn(2) == 0 {
			return bare(kind, word(name))
		}
		_, r := p.row()
		return bare(kind, r)
	case tree.If:
		s := sk(kind, "", p.Int63n(2), p.expr(2), p.expr(2), p.nested(deep))
		if p.Intn(2) == 0 {
			s.kids = append(s.kids, p.nested(deep))
		}
		return s
	case tree.For:
		return p.loop(deep)
	case tree.Let:
		e := p.expr(3)
		return p.known(sk(kind, p.name(), 0, e))
	case tree.Emit:
		return bare(kind, p.expr(3))
	}
	return bare(kind)
}

func (p *pencil) nested(deep int) sketch {
	if deep <= 0 {
		return block()
	}
	return p.block(deep-1, false)
}

func (p *pencil) loop(deep int) sketch {
	name := p.of(someVars...)
	for !p.slip() && (has(p.vars, name) || has(p.loops, name)) {
		name += "i"
	}
	p.loops = append(p.loops, name)
	s := sk(tree.For, name, 0, num(p.Int63n(9)), num(p.Int63n(9)), p.nested(deep))
	p.loops = p.loops[:len(p.loops)-1]
	return s
}
