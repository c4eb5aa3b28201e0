package tree_test

import (
	"fmt"
	"math"
	"math/rand"
	"reflect"
	"regexp"
	"slices"
	"strings"
	"testing"

	"interlock/tree"
)

// What the chapter says, written down a second time and by other means than the package's own, for the tests to hold the package against.

// chapterTable has a line a kind, from 1 on: its name, whether its text is a name, its greatest number, and its kids.
const chapterTable = `
Program  | -    | 0          | (Table|Proc)*
Table    | name | 0          | Word Word*
Proc     | name | 1          | Names Block
Names    | -    | 0          | Word*
Word     | name | 0          |
Block    | -    | 0          | stmt*
Read     | name | 1          | Row Word
Set      | -    | 0          | Row Word expr
Put      | -    | 0          | Row expr expr*
Delete   | -    | 0          | Row
Scan     | name | 0          | Word Word
Lock     | -    | 1          | Word
Release  | -    | 0          | (Word|Row)
If       | -    | 1          | expr expr Block Block?
For      | name | 0          | Number Number Block
Let      | name | 0          | expr
Emit     | -    | 0          | expr
Rollback | -    | 0          |
Chop     | -    | 0          |
Row      | name | 0          | expr
Number   | -    | 2147483647 |
Var      | name | 0          |
Plus     | -    | 0          | expr expr
Minus    | -    | 0          | expr expr
Times    | -    | 0          | expr expr
Neg      | -    | 0          | expr
`

const (
	chapterExprs = "(Number|Var|Plus|Minus|Times|Neg)"
	chapterStmts = "(Read|Set|Put|Delete|Scan|Lock|Release|If|For|Let|Emit|Rollback|Chop)"
)

var chapterName = regexp.MustCompile(`^[a-z][a-z0-9_]*$`)

// line is what the chapter says of a kind.
type line struct {
	name  string
	named bool
	most  int64
	kids  *regexp.Regexp
}

// chapter has the lines by kind; none at 0.
var chapter = readChapter()

func readChapter() []line {
	lines := []line{{}}
	for _, text := range strings.Split(strings.TrimSpace(chapterTable), "\n") {
		fields := strings.Split(text, "|")
		kids := strings.Join(fields[3:], "|")
		kids = strings.ReplaceAll(kids, "expr", chapterExprs)
		kids = strings.ReplaceAll(kids, "stmt", chapterStmts)
		kids = regexp.MustCompile(`[A-Z][a-z]+`).ReplaceAllString(kids, "($0,)")
		kids = strings.ReplaceAll(kids, " ", "")
		l := line{name: strings.TrimSpace(fields[0]), named: strings.TrimSpace(fields[1]) == "name"}
		fmt.Sscan(fields[2], &l.most)
		l.kids = regexp.MustCompile("^(" + kids + ")$")
		lines = append(lines, l)
	}
	return lines
}

// isLaid: is it a tree, as the first sentence of the chapter says?
func isLaid(t tree.Tree) bool {
	parents := make([]int, len(t.Nodes))
	for i, n := range t.Nodes {
		for _, kid := range n.Kids {
			if kid <= i || kid >= len(t.Nodes) {
				return false
			}
			parents[kid]++
		}
	}
	for i, count := range parents {
		if i > 0 && count != 1 {
			return false
		}
	}
	if len(t.Nodes) == 0 {
		return false
	}
	// As each kid stands behind its parent, and is nobody else's, the pile runs empty.
	pile := []int{0}
	for place := 0; len(pile) > 0; place++ {
		i := pile[len(pile)-1]
		if i != place {
			return false
		}
		kids := slices.Clone(t.Nodes[i].Kids)
		slices.Reverse(kids)
		pile = append(pile[:len(pile)-1], kids...)
	}
	return true
}

// fits: may the node at i stand there, by its line in the chapter?
func fits(t tree.Tree, i int) bool {
	n := t.Nodes[i]
	if n.Kind == 0 || int(n.Kind) >= len(chapter) {
		return false
	}
	l := chapter[n.Kind]
	if l.named != chapterName.MatchString(n.Text) || !l.named && n.Text != "" || n.N < 0 || n.N > l.most {
		return false
	}
	row := ""
	for _, kid := range n.Kids {
		k := t.Nodes[kid].Kind
		if k == 0 || int(k) >= len(chapter) {
			return false
		}
		row += chapter[k].name + ","
	}
	return l.kids.MatchString(row)
}

func isRight(t tree.Tree) bool {
	if !isLaid(t) || t.Nodes[0].Kind != tree.Program {
		return false
	}
	for i := range t.Nodes {
		if !fits(t, i) {
			return false
		}
	}
	return true
}

// parentsOf tells of each node of a right tree whose kid it is; of the whole -1.
func parentsOf(t tree.Tree) []int {
	parents := make([]int, len(t.Nodes))
	parents[0] = -1
	for i, n := range t.Nodes {
		for _, kid := range n.Kids {
			parents[kid] = i
		}
	}
	return parents
}

// isBeneath: is the node at i the one at top, or beneath it?
func isBeneath(parents []int, i, top int) bool {
	for i > top {
		i = parents[i]
	}
	return i == top
}

func isExpr(kind uint8) bool {
	return strings.Contains(chapterExprs, chapter[kind].name)
}

// deepOf follows the way from each node up to the whole.
func deepOf(t tree.Tree) int {
	if !isRight(t) {
		return 0
	}
	parents := parentsOf(t)
	deepest := 0
	for i := range t.Nodes {
		deep := 0
		for at := i; at >= 0; at = parents[at] {
			k := t.Nodes[at].Kind
			if k == tree.Block || k == tree.Row || isExpr(k) && isExpr(t.Nodes[parents[at]].Kind) {
				deep++
			}
		}
		deepest = max(deepest, deep)
	}
	return deepest
}

func sizeOf(t tree.Tree, i int) int {
	if !isRight(t) || i < 0 || i >= len(t.Nodes) {
		return 0
	}
	parents, size := parentsOf(t), 0
	for j := range t.Nodes {
		if isBeneath(parents, j, i) {
			size++
		}
	}
	return size
}

// Trees by hand.

// sketch is a node with all beneath it.
type sketch struct {
	kind uint8
	text string
	n    int64
	kids []sketch
}

func sk(kind uint8, text string, n int64, kids ...sketch) sketch { return sketch{kind, text, n, kids} }

// bare is a node without text and number.
func bare(kind uint8, kids ...sketch) sketch { return sk(kind, "", 0, kids...) }

func num(n int64) sketch      { return sk(tree.Number, "", n) }
func word(text string) sketch { return sk(tree.Word, text, 0) }
func proc(stmts ...sketch) sketch {
	return sk(tree.Proc, "p", 0, bare(tree.Names), bare(tree.Block, stmts...))
}
func whole(parts ...sketch) sketch { return bare(tree.Program, parts...) }

func (s sketch) lay(nodes []tree.Node) []tree.Node {
	i := len(nodes)
	nodes = append(nodes, tree.Node{Kind: s.kind, Text: s.text, N: s.n})
	var kids []int
	for _, kid := range s.kids {
		kids = append(kids, len(nodes))
		nodes = kid.lay(nodes)
	}
	nodes[i].Kids = kids
	return nodes
}

func flat(s sketch) tree.Tree { return tree.Tree{Nodes: s.lay(nil)} }

// sample is a small node of that kind, right in itself.
func sample(kind uint8) sketch {
	row := sk(tree.Row, "t", 0, num(1))
	s := sketch{kind: kind}
	if chapter[kind].named {
		s.text = "a"
	}
	switch kind {
	case tree.Table:
		s.kids = []sketch{word("c")}
	case tree.Proc:
		s.kids = []sketch{bare(tree.Names), bare(tree.Block)}
	case tree.Read:
		s.kids = []sketch{row, word("c")}
	case tree.Set:
		s.kids = []sketch{row, word("c"), num(1)}
	case tree.Put:
		s.kids = []sketch{row, num(1)}
	case tree.Delete, tree.Release:
		s.kids = []sketch{row}
	case tree.Scan:
		s.kids = []sketch{word("t"), word("c")}
	case tree.Lock:
		s.kids = []sketch{word("t")}
	case tree.If:
		s.kids = []sketch{num(1), num(2), bare(tree.Block)}
	case tree.For:
		s.kids = []sketch{num(1), num(2), bare(tree.Block)}
	case tree.Let, tree.Emit, tree.Row, tree.Neg:
		s.kids = []sketch{num(1)}
	case tree.Plus, tree.Minus, tree.Times:
		s.kids = []sketch{num(1), num(2)}
	}
	return s
}

// around is a whole in which that node stands where its kind may.
func around(s sketch) sketch {
	switch {
	case s.kind == tree.Program:
		return s
	case s.kind == tree.Table || s.kind == tree.Proc:
		return whole(s)
	case s.kind == tree.Names:
		return whole(sk(tree.Proc, "p", 0, s, bare(tree.Block)))
	case s.kind == tree.Block:
		return whole(sk(tree.Proc, "p", 0, bare(tree.Names), s))
	case s.kind == tree.Word:
		return whole(sk(tree.Table, "t", 0, s))
	case s.kind == tree.Row:
		return whole(proc(bare(tree.Delete, s)))
	case s.kind >= tree.Number && s.kind <= tree.Neg:
		return whole(proc(bare(tree.Emit, s)))
	}
	return whole(proc(s))
}

// show is a tree as a line, for what a failed test tells.
func show(t tree.Tree) string {
	s := fmt.Sprintf("%v", t.Nodes)
	return s[:min(len(s), 600)]
}

// check holds all that is promised of a tree against the second reading.
func check(t *testing.T, x tree.Tree) bool {
	t.Helper()
	right := isRight(x)
	if got := tree.Right(x); got != right {
		t.Errorf("Right is %t of %s", got, show(x))
		return false
	}
	if got, want := tree.Deep(x), deepOf(x); got != want {
		t.Errorf("Deep is %d, not %d, of %s", got, want, show(x))
		return false
	}
	for i := -2; i <= len(x.Nodes)+1; i++ {
		if got, want := tree.Size(x, i), sizeOf(x, i); got != want {
			t.Errorf("Size at %d is %d, not %d, of %s", i, got, want, show(x))
			return false
		}
	}
	return true
}

// P4.1: the kinds have the numbers that the chapter gives them.
func TestKinds(t *testing.T) {
	kinds := []uint8{tree.Program, tree.Table, tree.Proc, tree.Names, tree.Word, tree.Block, tree.Read, tree.Set, tree.Put, tree.Delete, tree.Scan, tree.Lock, tree.Release, tree.If, tree.For, tree.Let, tree.Emit, tree.Rollback, tree.Chop, tree.Row, tree.Number, tree.Var, tree.Plus, tree.Minus, tree.Times, tree.Neg}
	for i, kind := range kinds {
		if int(kind) != i+1 {
			t.Errorf("%s is %d", chapter[i+1].name, kind)
		}
	}
	if len(chapter) != len(kinds)+1 {
		t.Errorf("%d lines", len(chapter))
	}
}

// The chapter's examples (P4.1, P4.3, P4.4).
func TestExamples(t *testing.T) {
	alone := flat(whole())
	if !tree.Right(alone) || tree.Deep(alone) != 0 || tree.Size(alone, 0) != 1 {
		t.Errorf("Program without kids: %t, %d, %d", tree.Right(alone), tree.Deep(alone), tree.Size(alone, 0))
	}
	emits := flat(whole(proc(bare(tree.Emit, bare(tree.Plus, num(1), num(2))))))
	if !tree.Right(emits) || tree.Deep(emits) != 2 {
		t.Errorf("Emit of Plus: %t, %d", tree.Right(emits), tree.Deep(emits))
	}
	if tree.Right(flat(whole(bare(tree.Block)))) {
		t.Error("a Block beneath a Program")
	}
}

// P4.1, P4.3, P4.4, P4.5: of what is none.
func TestEmpty(t *testing.T) {
	for _, x := range []tree.Tree{{}, {Nodes: []tree.Node{}}} {
		if tree.Right(x) || tree.Deep(x) != 0 || tree.Size(x, 0) != 0 || tree.Size(x, -1) != 0 || tree.Find(x, 0) != -1 {
			t.Error("the empty tree")
		}
		if !tree.Same(x, tree.Tree{}) || tree.Same(x, flat(whole())) || tree.Same(flat(whole()), x) {
			t.Error("Same of the empty tree")
		}
	}
}

// rowsOf goes over all rows of these kinds, of up to that many.
func rowsOf(kinds []uint8, most int, yield func(row []uint8)) {
	var further func(row []uint8)
	further = func(row []uint8) {
		yield(row)
		if len(row) < most {
			for _, kind := range kinds {
				further(append(slices.Clone(row), kind))
			}
		}
	}
	further(nil)
}

func withKids(kind uint8, row []uint8) tree.Tree {
	s := sample(kind)
	s.kids = nil
	for _, kid := range row {
		s.kids = append(s.kids, sample(kid))
	}
	return flat(around(s))
}

// P4.1: each kind, with each row of kids: too few, too many, or such as may not stand there.
func TestKidsOfEachKind(t *testing.T) {
	var all []uint8
	for kind := tree.Program; kind <= tree.Neg; kind++ {
		all = append(all, kind)
	}
	few := []uint8{tree.Word, tree.Row, tree.Number, tree.Times, tree.Block, tree.Names}
	for _, kind := range all {
		rights := 0
		try := func(row []uint8) {
			x := withKids(kind, row)
			if got, want := tree.Right(x), isRight(x); got != want {
				t.Errorf("%s with kids %v: Right is %t", chapter[kind].name, row, got)
			}
			if isRight(x) {
				rights++
			}
		}
		rowsOf(all, 2, try)
		rowsOf(few, 4, try)
		if rights == 0 {
			t.Errorf("%s is never right: the test is not worth much", chapter[kind].name)
		}
	}
}

// P4.1: rows of kids that the chapter's table allows, one by one, as a reader writes them.
func TestRightRows(t *testing.T) {
	W, B, R, N, V := tree.Word, tree.Block, tree.Row, tree.Number, tree.Var
	for _, c := range []struct {
		kind  uint8
		row   []uint8
		right bool
	}{
		{tree.Program, []uint8{tree.Proc, tree.Table, tree.Proc, tree.Table}, true},
		{tree.Program, []uint8{tree.Proc, tree.Program}, false},
		{tree.Table, []uint8{W, W, W}, true}, {tree.Table, nil, false}, {tree.Table, []uint8{W, N}, false},
		{tree.Proc, []uint8{tree.Names, B}, true}, {tree.Proc, []uint8{B, tree.Names}, false}, {tree.Proc, []uint8{tree.Names, B, B}, false},
		{tree.Names, nil, true}, {tree.Names, []uint8{W, W}, true}, {tree.Names, []uint8{V}, false},
		{B, nil, true}, {B, []uint8{tree.Read, tree.Chop, tree.Read}, true}, {B, []uint8{tree.Chop, B}, false}, {B, []uint8{R}, false},
		{tree.Read, []uint8{R, W}, true}, {tree.Read, []uint8{W, R}, false}, {tree.Read, []uint8{R}, false},
		{tree.Set, []uint8{R, W, tree.Neg}, true}, {tree.Set, []uint8{R, W}, false}, {tree.Set, []uint8{R, W, N, N}, false},
		{tree.Put, []uint8{R, V, N, tree.Plus}, true}, {tree.Put, []uint8{R}, false}, {tree.Put, []uint8{R, N, W}, false},
		{tree.Delete, []uint8{R}, true}, {tree.Delete, []uint8{W}, false}, {tree.Delete, nil, false},
		{tree.Scan, []uint8{W, W}, true}, {tree.Scan, []uint8{W}, false}, {tree.Scan, []uint8{R, W}, false},
		{tree.Lock, []uint8{W}, true}, {tree.Lock, []uint8{R}, false},
		{tree.Release, []uint8{W}, true}, {tree.Release, []uint8{R}, true}, {tree.Release, []uint8{W, R}, false}, {tree.Release, nil, false},
		{tree.If, []uint8{N, V, B}, true}, {tree.If, []uint8{N, V, B, B}, true}, {tree.If, []uint8{N, V, B, B, B}, false}, {tree.If, []uint8{N, B}, false}, {tree.If, []uint8{N, V}, false},
		{tree.For, []uint8{N, N, B}, true}, {tree.For, []uint8{N, V, B}, false}, {tree.For, []uint8{V, N, B}, false}, {tree.For, []uint8{N, N, B, B}, false},
		{tree.Let, []uint8{V}, true}, {tree.Let, nil, false}, {tree.Emit, []uint8{tree.Times}, true}, {tree.Emit, []uint8{R}, false},
		{tree.Rollback, nil, true}, {tree.Rollback, []uint8{N}, false}, {tree.Chop, nil, true}, {tree.Chop, []uint8{W}, false},
		{R, []uint8{tree.Minus}, true}, {R, []uint8{W}, false}, {R, []uint8{N, N}, false},
		{N, nil, true}, {N, []uint8{N}, false}, {V, []uint8{W}, false}, {W, []uint8{W}, false},
		{tree.Plus, []uint8{N, V}, true}, {tree.Plus, []uint8{N}, false}, {tree.Minus, []uint8{N, V, N}, false}, {tree.Times, []uint8{N, R}, false},
		{tree.Neg, []uint8{tree.Neg}, true}, {tree.Neg, nil, false}, {tree.Neg, []uint8{N, N}, false},
	} {
		if got := tree.Right(withKids(c.kind, c.row)); got != c.right {
			t.Errorf("%s with kids %v: Right is %t", chapter[c.kind].name, c.row, got)
		}
	}
}

// P4.1: what each kind's text and number may be.
func TestTextsAndNumbers(t *testing.T) {
	texts := []string{"", "a", "z9_", "read", "a_", "A", "aB", "9", "1a", "_", "_a", "a b", " a", "a\n", "a-", "ä", "\xff", "a\x00", "t[", strings.Repeat("a", 70000)}
	numbers := []int64{math.MinInt64, -1 << 32, -2, -1, 0, 1, 2, 3, 255, 256, 2147483646, 2147483647, 2147483648, 1 << 32, 1<<32 + 1, math.MaxInt64}
	for kind := tree.Program; kind <= tree.Neg; kind++ {
		l := chapter[kind]
		for _, text := range texts {
			for _, n := range numbers {
				s := sample(kind)
				s.text, s.n = text, n
				want := 0 <= n && n <= l.most && (l.named && chapterName.MatchString(text) || !l.named && text == "")
				if got := tree.Right(flat(around(s))); got != want {
					t.Errorf("%s of %.10q and %d: Right is %t", l.name, text, n, got)
				}
			}
		}
	}
}

// P4.1: kinds that are none are right nowhere.
func TestNoKinds(t *testing.T) {
	x := flat(whole(sk(tree.Table, "t", 0, word("c")), proc(bare(tree.Emit, bare(tree.Neg, num(1))), bare(tree.If, num(1), num(2), bare(tree.Block)))))
	if !tree.Right(x) {
		t.Fatal("not right")
	}
	for i := range x.Nodes {
		for kind := range 256 {
			if kind >= int(tree.Program) && kind <= int(tree.Neg) {
				continue
			}
			kept := x.Nodes[i].Kind
			x.Nodes[i].Kind = uint8(kind)
			if tree.Right(x) || tree.Deep(x) != 0 || tree.Size(x, 0) != 0 {
				t.Errorf("node %d of kind %d", i, kind)
			}
			x.Nodes[i].Kind = kept
		}
	}
}

// P4.1: the whole is a program, and nothing else is: no other tree's lines could be read again as the same.
func TestWhole(t *testing.T) {
	for kind := tree.Program; kind <= tree.Neg; kind++ {
		x := flat(sample(kind))
		if tree.Right(x) != (kind == tree.Program) {
			t.Errorf("the whole is a %s", chapter[kind].name)
		}
		check(t, x)
		inner := flat(around(sample(kind)))
		if !tree.Right(inner) {
			t.Errorf("%s within a program", chapter[kind].name)
		}
		check(t, inner)
	}
}

// P4.1, P4.3, P4.4: all rows of kids, of numbers that are there and that are not: named twice, never, out of order, ahead of their parent, below 0, past the end.
func TestEveryLayout(t *testing.T) {
	for _, kinds := range [][]uint8{
		{tree.Program, tree.Table, tree.Word},
		{tree.Program, tree.Table, tree.Word, tree.Word},
		{tree.Program, tree.Proc, tree.Names, tree.Block},
	} {
		var lists [][]int
		var further func(list []int)
		further = func(list []int) {
			lists = append(lists, list)
			if len(list) < 2 {
				for kid := -1; kid <= len(kinds); kid++ {
					further(append(slices.Clone(list), kid))
				}
			}
		}
		further(nil)
		tryLists(t, kinds, lists)
	}
}

// tryLists gives the nodes but the last one each of the lists; the last one few.
func tryLists(t *testing.T, kinds []uint8, lists [][]int) {
	x := tree.Tree{Nodes: make([]tree.Node, len(kinds))}
	for i, kind := range kinds {
		x.Nodes[i].Kind = kind
		if chapter[kind].named {
			x.Nodes[i].Text = "a"
		}
	}
	rights := 0
	var further func(i int)
	further = func(i int) {
		if i < len(kinds)-1 {
			for _, list := range lists {
				x.Nodes[i].Kids = list
				further(i + 1)
			}
			return
		}
		for _, last := range [][]int{nil, {}, {0}, {i}, {i + 1}} {
			x.Nodes[i].Kids = last
			right := isRight(x)
			if right {
				rights++
			}
			if tree.Right(x) != right || !right && tree.Deep(x) != 0 {
				t.Fatalf("Right is not %t of %s", right, show(x))
			}
		}
	}
	further(0)
	if rights != 2 {
		t.Errorf("%d are right, not the one, with nil and an empty list", rights)
	}
}

// P4.1: faults of kids one by one, in a tree of some size.
func TestWrongKids(t *testing.T) {
	good := func() tree.Tree {
		return flat(whole(sk(tree.Table, "t", 0, word("c"), word("d")), proc(bare(tree.Emit, bare(tree.Plus, num(1), bare(tree.Plus, num(2), num(3)))), bare(tree.Chop))))
	}
	x := good()
	if !tree.Right(x) {
		t.Fatal("not right")
	}
	// 0 Program, 1 Table, 2 3 Word, 4 Proc, 5 Names, 6 Block, 7 Emit, 8 Plus, 9 Number, 10 Plus, 11 12 Number, 13 Chop.
	for what, change := range map[string]func(n []tree.Node){
		"a word twice":              func(n []tree.Node) { n[1].Kids = []int{2, 2} },
		"a word twice, and both":    func(n []tree.Node) { n[1].Kids = []int{2, 3, 3} },
		"words out of order":        func(n []tree.Node) { n[1].Kids = []int{3, 2} },
		"a word never":              func(n []tree.Node) { n[1].Kids = []int{2} },
		"the first word never":      func(n []tree.Node) { n[1].Kids = []int{3} },
		"a kid below 0":             func(n []tree.Node) { n[1].Kids = []int{2, -1} },
		"a kid far below 0":         func(n []tree.Node) { n[1].Kids = []int{math.MinInt} },
		"a kid past the end":        func(n []tree.Node) { n[6].Kids = []int{7, 14} },
		"a kid too many at the end": func(n []tree.Node) { n[6].Kids = []int{7, 13, 14} },
		"a kid far past the end":    func(n []tree.Node) { n[6].Kids = []int{7, math.MaxInt} },
		"a kid ahead":               func(n []tree.Node) { n[10].Kids = []int{11, 9} },
		"its own kid":               func(n []tree.Node) { n[10].Kids = []int{10, 12} },
		"the whole as a kid":        func(n []tree.Node) { n[10].Kids = []int{0, 12} },
		"a kid of two":              func(n []tree.Node) { n[8].Kids = []int{9, 11} },
		"parts swapped":             func(n []tree.Node) { n[8].Kids = []int{10, 9} },
		"the kids' kid":             func(n []tree.Node) { n[8].Kids = []int{9, 12} },
		"the program's own last":    func(n []tree.Node) { n[0].Kids = []int{1} },
		"a stranger's kids":         func(n []tree.Node) { n[1].Kids, n[0].Kids = []int{2}, []int{1, 3} },
		"a chop of the program":     func(n []tree.Node) { n[6].Kids, n[0].Kids = []int{7}, []int{1, 4, 13} },
	} {
		x := good()
		change(x.Nodes)
		if tree.Right(x) || isRight(x) || tree.Deep(x) != 0 || tree.Size(x, 0) != 0 || tree.Size(x, 9) != 0 {
			t.Errorf("%s: right", what)
		}
		if tree.Same(x, good()) || tree.Same(good(), x) {
			t.Errorf("%s: the same", what)
		}
	}
	short, long := good(), good()
	short.Nodes = short.Nodes[:13]
	long.Nodes = append(long.Nodes, tree.Node{Kind: tree.Chop})
	if tree.Right(short) || tree.Right(long) {
		t.Error("a node too few, or too many")
	}
}

// grow draws a node of that kind, right in itself, at most so deep.
func grow(r *rand.Rand, kind uint8, deep int) sketch {
	s := sample(kind)
	if chapter[kind].named {
		s.text = string(rune('a' + r.Intn(3)))
	}
	if most := chapter[kind].most; r.Intn(2) == 0 {
		s.n = r.Int63n(most + 1)
	}
	for i := range s.kids {
		k := s.kids[i].kind
		if isExpr(k) && kind != tree.For {
			k = growing(r, tree.Number, tree.Neg, deep)
		}
		s.kids[i] = grow(r, k, deep-1)
	}
	return growMore(r, s, deep)
}

// growing is a kind from one up to another; where it is deep, one of the first two, which end soon.
func growing(r *rand.Rand, from, to uint8, deep int) uint8 {
	if deep <= 0 {
		to = min(to, from+1)
	}
	return from + uint8(r.Intn(int(to-from)+1))
}

// growMore adds the kids that a kind may have and need not.
func growMore(r *rand.Rand, s sketch, deep int) sketch {
	more := func(from, to uint8) {
		for range r.Intn(3) {
			s.kids = append(s.kids, grow(r, growing(r, from, to, deep), deep-1))
		}
	}
	switch s.kind {
	case tree.Program:
		more(tree.Table, tree.Proc)
	case tree.Table, tree.Names:
		more(tree.Word, tree.Word)
	case tree.Block:
		if deep > 0 {
			more(tree.Read, tree.Chop)
		}
	case tree.Put:
		more(tree.Number, tree.Neg)
	case tree.If:
		if r.Intn(2) == 0 {
			s.kids = append(s.kids, grow(r, tree.Block, deep-1))
		}
	case tree.Release:
		if r.Intn(2) == 0 {
			s.kids = []sketch{word("t")}
		}
	}
	return s
}

// random is a right tree of some hundred nodes at most.
func random(r *rand.Rand) tree.Tree {
	for {
		x := flat(grow(r, tree.Program, 1+r.Intn(9)))
		if len(x.Nodes) > 200 || len(x.Nodes) < 3 {
			continue
		}
		for i := range x.Nodes {
			x.Nodes[i].At = r.Intn(9) - 1
		}
		return x
	}
}

func copied(x tree.Tree) tree.Tree {
	y := tree.Tree{Nodes: slices.Clone(x.Nodes)}
	for i := range y.Nodes {
		y.Nodes[i].Kids = slices.Clone(y.Nodes[i].Kids)
	}
	return y
}

// spoil changes a thing or two, after which the tree may be right or not.
func spoil(r *rand.Rand, x tree.Tree) {
	for range 1 + r.Intn(2) {
		n := &x.Nodes[r.Intn(len(x.Nodes))]
		switch r.Intn(6) {
		case 0:
			n.Kind = uint8(r.Intn(28))
		case 1:
			n.Text = []string{"", "a", "b", "1"}[r.Intn(4)]
		case 2:
			n.N = int64(r.Intn(4)) - 1
		case 3:
			n.Kids = append(n.Kids, r.Intn(len(x.Nodes)+1))
		case 4:
			n.Kids = n.Kids[:len(n.Kids)/2]
		case 5:
			if len(n.Kids) > 0 {
				n.Kids[r.Intn(len(n.Kids))] = r.Intn(len(x.Nodes)+2) - 1
			}
		}
	}
}

// P4.1, P4.3, P4.4: many trees, right ones and spoilt ones, against the second reading.
func TestManyTrees(t *testing.T) {
	r := rand.New(rand.NewSource(4))
	rights, deepest := 0, 0
	for range 1500 {
		x := random(r)
		if !isRight(x) || !check(t, x) {
			t.Fatalf("drawn wrong, or told wrong: %s", show(x))
		}
		deepest = max(deepest, tree.Deep(x))
		spoil(r, x)
		if !check(t, x) {
			t.FailNow()
		}
		if isRight(x) {
			rights++
		}
	}
	if rights < 50 || deepest < 6 {
		t.Errorf("of those spoilt %d are right, the deepest is %d: the test is not worth much", rights, deepest)
	}
}

// P4.1: At is not asked; P4.1, P4.2: nor whether a list without kids is nil.
func TestAtIsNotAsked(t *testing.T) {
	r := rand.New(rand.NewSource(5))
	for range 100 {
		x := random(r)
		y := copied(x)
		for i := range y.Nodes {
			y.Nodes[i].At = []int{math.MinInt, -1, 0, 70000, math.MaxInt}[r.Intn(5)]
			if len(y.Nodes[i].Kids) == 0 {
				y.Nodes[i].Kids = []int{}
			}
		}
		if !tree.Right(y) || !tree.Same(x, y) || !tree.Same(y, x) || tree.Deep(x) != tree.Deep(y) {
			t.Fatalf("At counts: %s", show(y))
		}
	}
}

// P4.2: node by node, whether trees are right or not.
func TestSame(t *testing.T) {
	r := rand.New(rand.NewSource(6))
	for range 1000 {
		x := random(r)
		if r.Intn(2) == 0 {
			spoil(r, x)
		}
		y := copied(x)
		if !tree.Same(x, y) || !tree.Same(y, x) || !tree.Same(x, x) {
			t.Fatalf("not the same as itself: %s", show(x))
		}
		n := &y.Nodes[r.Intn(len(y.Nodes))]
		switch r.Intn(6) {
		case 0:
			n.Kind++
		case 1:
			n.Text += "a"
		case 2:
			n.N++
		case 3:
			n.Kids = append(n.Kids, 0)
		case 4:
			y.Nodes = append(y.Nodes, tree.Node{})
		case 5:
			if len(n.Kids) == 0 {
				continue
			}
			n.Kids[len(n.Kids)-1]++
		}
		if tree.Same(x, y) || tree.Same(y, x) {
			t.Fatalf("the same:\n%s\n%s", show(x), show(y))
		}
	}
}

// P4.3: what makes a way deeper, and what does not.
func TestDeep(t *testing.T) {
	row := func(key sketch) sketch { return sk(tree.Row, "t", 0, key) }
	neg := func(s sketch) sketch { return bare(tree.Neg, s) }
	one := num(1)
	block := func(stmts ...sketch) sketch { return bare(tree.Block, stmts...) }
	deeper := neg(neg(one))
	for i, c := range []struct {
		s    sketch
		deep int
	}{
		{whole(sk(tree.Table, "t", 0, word("c"))), 0},
		{whole(proc()), 1},
		{whole(proc(bare(tree.Chop))), 1},
		{whole(proc(bare(tree.Emit, one))), 1},
		{whole(proc(bare(tree.Emit, neg(one)))), 2},
		{whole(proc(bare(tree.Emit, deeper))), 3},
		{whole(proc(bare(tree.Delete, row(one)))), 2},
		{whole(proc(bare(tree.Delete, row(neg(one))))), 3},
		{whole(proc(bare(tree.Release, row(one)))), 2},
		{whole(proc(bare(tree.Release, word("t")))), 1},
		{whole(proc(bare(tree.Set, row(one), word("c"), deeper))), 3},
		{whole(proc(bare(tree.Put, row(one), one, one, one))), 2},
		{whole(proc(bare(tree.If, one, one, block()))), 2},
		{whole(proc(bare(tree.If, one, one, block(), block(bare(tree.Emit, deeper))))), 4},
		{whole(proc(sk(tree.For, "i", 0, one, one, block(sk(tree.For, "j", 0, one, one, block()))))), 3},
		{whole(proc(bare(tree.Emit, deeper)), proc()), 3},
		{whole(proc(), proc(bare(tree.Emit, bare(tree.Plus, bare(tree.Times, one, one), one)))), 3},
	} {
		x := flat(c.s)
		if !tree.Right(x) || tree.Deep(x) != c.deep || deepOf(x) != c.deep {
			t.Errorf("%d: Deep is %d, not %d", i, tree.Deep(x), c.deep)
		}
	}
}

// P4.5: the last node that is there, of any tree.
func TestFind(t *testing.T) {
	nodes := []tree.Node{{At: 3}, {At: 5, Kids: []int{7}}, {At: 3}, {At: -1}, {At: math.MaxInt}, {At: 0, Kind: 99}}
	x := tree.Tree{Nodes: nodes}
	for at, want := range map[int]int{3: 2, 5: 1, -1: 3, math.MaxInt: 4, 0: 5, 4: -1, 6: -1, -2: -1, math.MinInt: -1} {
		if got := tree.Find(x, at); got != want {
			t.Errorf("at %d: %d, not %d", at, got, want)
		}
	}
	r := rand.New(rand.NewSource(7))
	for range 300 {
		x := random(r)
		if r.Intn(2) == 0 {
			spoil(r, x)
		}
		for at := -3; at <= 10; at++ {
			want := -1
			for i, n := range x.Nodes {
				if n.At == at {
					want = i
				}
			}
			if got := tree.Find(x, at); got != want {
				t.Fatalf("at %d: %d, not %d: %s", at, got, want, show(x))
			}
		}
	}
}

// spare gives lists memory behind their ends, and marks it.
func spare(x tree.Tree) tree.Tree {
	nodes := append(make([]tree.Node, 0, len(x.Nodes)+2), x.Nodes...)
	for i := range nodes {
		kids := append(make([]int, 0, len(nodes[i].Kids)+2), nodes[i].Kids...)
		kids[:len(kids)+2][len(kids)] = 77
		kids[:len(kids)+2][len(kids)+1] = 78
		nodes[i].Kids = kids
	}
	nodes[:len(nodes)+2][len(nodes)] = tree.Node{Text: "behind"}
	return tree.Tree{Nodes: nodes}
}

// memory is all that a tree's lists have, what lies behind their ends included.
func memory(x tree.Tree) tree.Tree {
	y := tree.Tree{Nodes: slices.Clone(x.Nodes[:cap(x.Nodes)])}
	for i := range y.Nodes {
		kids := y.Nodes[i].Kids
		y.Nodes[i].Kids = slices.Clone(kids[:cap(kids)])
	}
	return y
}

// P4.6: nothing that is handed in is written, and what is asked twice is told twice.
func TestOnlyRead(t *testing.T) {
	r := rand.New(rand.NewSource(8))
	for range 200 {
		x := random(r)
		if r.Intn(2) == 0 {
			spoil(r, x)
		}
		x = spare(x)
		y := spare(copied(x))
		before, other := memory(x), memory(y)
		ask := func() []any {
			return []any{tree.Right(x), tree.Same(x, y), tree.Same(y, x), tree.Deep(x), tree.Size(x, 1), tree.Size(x, 0), tree.Find(x, 3)}
		}
		if first, second := ask(), ask(); !reflect.DeepEqual(first, second) {
			t.Fatalf("%v, then %v", first, second)
		}
		if !reflect.DeepEqual(memory(x), before) || !reflect.DeepEqual(memory(y), other) {
			t.Fatal("changed what was handed in")
		}
	}
}

// P4.7: sizes tell just what stands beneath a node, and add up.
func TestSizesFollow(t *testing.T) {
	r := rand.New(rand.NewSource(9))
	for range 200 {
		x := random(r)
		parents := parentsOf(x)
		for i, n := range x.Nodes {
			size, kids := tree.Size(x, i), 1
			for _, kid := range n.Kids {
				kids += tree.Size(x, kid)
			}
			if size != kids {
				t.Fatalf("%d of its own, %d of its kids", size, kids)
			}
			for j := range x.Nodes {
				if isBeneath(parents, j, i) != (j >= i && j < i+size) {
					t.Fatalf("%d beneath %d of size %d", j, i, size)
				}
			}
		}
		if tree.Size(x, 0) != len(x.Nodes) {
			t.Fatal("the whole is not all")
		}
	}
}

// P4.1 to P4.5: long rows, and deep trees.
func TestGreatTrees(t *testing.T) {
	const many = 300000
	long := []tree.Node{{Kind: tree.Program}}
	for i := 1; i <= many; i += 2 {
		long[0].Kids = append(long[0].Kids, i)
		long = append(long, tree.Node{Kind: tree.Table, Text: "t", Kids: []int{i + 1}}, tree.Node{Kind: tree.Word, Text: "c", At: i})
	}
	x := tree.Tree{Nodes: long}
	if !tree.Right(x) || tree.Deep(x) != 0 || tree.Size(x, 0) != many+1 || tree.Size(x, many-1) != 2 || tree.Find(x, 1) != 2 {
		t.Error("a long row")
	}
	deep := flat(whole(proc(bare(tree.Emit)))).Nodes
	for len(deep) < many {
		deep[len(deep)-1].Kids = []int{len(deep)}
		deep = append(deep, tree.Node{Kind: tree.Neg})
	}
	x = tree.Tree{Nodes: deep}
	if tree.Right(x) || tree.Deep(x) != 0 || tree.Size(x, 0) != 0 {
		t.Error("a deep tree without an end")
	}
	deep[len(deep)-1] = tree.Node{Kind: tree.Var, Text: "x"}
	if !tree.Right(x) || tree.Deep(x) != many-5 || tree.Size(x, 5) != many-5 || tree.Size(x, many-1) != 1 || !tree.Same(x, copied(x)) {
		t.Errorf("a deep tree: %t, %d, %d", tree.Right(x), tree.Deep(x), tree.Size(x, 5))
	}
}
