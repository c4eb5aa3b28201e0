package code_test

import (
	"fmt"
	"math"
	"math/big"
	"math/rand"
	"reflect"
	"runtime/debug"
	"slices"
	"strings"
	"testing"

	"interlock/api"
	"interlock/code"
	"interlock/names"
	"interlock/parse"
	"interlock/tree"
)

// short cuts what a failed test shows.
func short(x any) string {
	s := fmt.Sprintf("%v", x)
	if len(s) > 800 {
		return s[:400] + " .. " + s[len(s)-400:]
	}
	return s
}

func mustResolve(t *testing.T, src string) names.Program {
	t.Helper()
	x, err := parse.Parse([]byte(src))
	if err != nil {
		t.Fatalf("Parse(%s) = %v", short(src), err)
	}
	p, err := names.Resolve([]byte(src), x)
	if err != nil {
		t.Fatalf("Resolve(%s) = %v", short(src), err)
	}
	return p
}

// kinds are the terms that a text may name, and nothing behind them.
var kinds = map[string]uint8{"+": code.Plus, "-": code.Minus, "*": code.Times, "neg": code.Neg}

// terms is a reckoning from a text: numbers, v and a variable's number, + - * and neg.
func terms(text string) []code.Term {
	var l []code.Term
	for _, word := range strings.Fields(text) {
		x := code.Term{Kind: kinds[word]}
		if x.Kind == 0 {
			x.Kind = code.Number
			if word[0] == 'v' {
				x.Kind, word = code.Var, word[1:]
				fmt.Sscan(word, &x.Var)
			} else {
				fmt.Sscan(word, &x.N)
			}
		}
		l = append(l, x)
	}
	return l
}

func isExpr(kind uint8) bool { return tree.Number <= kind && kind <= tree.Neg }

// exprs are a tree's expressions that stand beneath none.
func exprs(x tree.Tree) []int {
	inner := map[int]bool{}
	var outer []int
	for i, n := range x.Nodes {
		for _, kid := range n.Kids {
			inner[kid] = isExpr(n.Kind)
		}
		if isExpr(n.Kind) && !inner[i] {
			outer = append(outer, i)
		}
	}
	return outer
}

// everyForm has each form of the grammar at least once, and is right.
const everyForm = "table t(c, d); table u(e); proc p(a, b) single { read x = t[a].c; read y = t[1].d for update; " +
	"set t[x].c = x + y * -2; put t[1](2, a - (b - 1)); delete u[(a)]; scan z = u.e; chop; lock t shared; lock u all; " +
	"release t; release t[-(a * b)]; if a < b { rollback; } else { emit z; } if a == 1 { } for i = 1 to 3 { let x = i; } rollback; } proc q() { }"

// The chapter's examples.
func TestExamples(t *testing.T) { // P8.2
	for _, c := range []struct {
		terms string
		want  int64
		ok    bool
	}{{"v0 2 * v1 -", 4, true}, {"1 +", 0, false}, {"", 0, false}, {"v2", 0, false}, {"1 neg", -1, true}} {
		if got, ok := code.Eval(terms(c.terms), []int64{5, 6}); got != c.want || ok != c.ok {
			t.Errorf("Eval(%s) = %d, %t", c.terms, got, ok)
		}
	}
}

// Terms.

// wantTerms asks for the reckonings of a source's expressions that stand beneath none.
func wantTerms(t *testing.T, src string, want ...string) {
	t.Helper()
	p := mustResolve(t, src)
	outer := exprs(p.Tree)
	if len(outer) != len(want) {
		t.Fatalf("%s has %d expressions", src, len(outer))
	}
	for k, i := range outer {
		if got := code.Terms(p, i); !slices.Equal(got, terms(want[k])) {
			t.Errorf("%s: of %d: %v, want %s", src, i, got, want[k])
		}
	}
}

func TestTermsOfEachKind(t *testing.T) { // P8.1
	for expr, want := range map[string]string{
		"0":          "0",
		"7":          "7",
		"2147483647": "2147483647",
		"a":          "v0",
		"c":          "v2",
		"a + 1":      "v0 1 +",
		"1 - b":      "1 v1 -",
		"a * b":      "v0 v1 *",
		"-5":         "5 neg",
		"-a":         "v0 neg",
		"(a)":        "v0",
		"--a":        "v0 neg neg",
		"---7":       "7 neg neg neg",
		"-(-(a))":    "v0 neg neg",
		// From the left on, unless brackets say otherwise.
		"a - b - c":         "v0 v1 - v2 -",
		"a - (b - c)":       "v0 v1 v2 - -",
		"a - b + c - 1":     "v0 v1 - v2 + 1 -",
		"a * b * c":         "v0 v1 * v2 *",
		"a * (b * c)":       "v0 v1 v2 * *",
		"a - b * c":         "v0 v1 v2 * -",
		"(a - b) * c":       "v0 v1 - v2 *",
		"a * b - c":         "v0 v1 * v2 -",
		"a * (b - c)":       "v0 v1 v2 - *",
		"a - -b":            "v0 v1 neg -",
		"-a - b":            "v0 neg v1 -",
		"-(a - b)":          "v0 v1 - neg",
		"-a * b":            "v0 neg v1 *",
		"-(a * b)":          "v0 v1 * neg",
		"1 - (2 - (3 - 4))": "1 2 3 4 - - -",
		"((1 - 2) - 3) - 4": "1 2 - 3 - 4 -",
		"(1-2)*(3-4)":       "1 2 - 3 4 - *",
		"a - a":             "v0 v0 -",
	} {
		wantTerms(t, "proc p(a, b, c) { emit "+expr+"; }", want)
	}
}

// Wherever an expression stands, and whichever variable it names.
func TestTermsWherever(t *testing.T) { // P8.1
	wantTerms(t, everyForm, "v0", "1", "v2", "v2 v3 2 neg * +", "1", "2", "v0 v1 1 - -", "v0", "v0 v1 * neg", "v0", "v1", "v4", "v0", "1", "1", "3", "v5")
	// Of a procedure its own variables; of one name that of its block.
	wantTerms(t, "proc p(a, b) { emit b; } proc q(b) { emit b; }", "v1", "v0")
	wantTerms(t, "proc p() { if 1 < 2 { let x = 1; emit x; } else { let y = 2; let x = y; emit x - y; } }", "1", "2", "1", "v0", "2", "v1", "v2 v1 -")
	wantTerms(t, "proc p(a) { for i = 4 to 5 { for j = 6 to 7 { emit i * j - a; } } for i = 8 to 9 { emit i; } }",
		"4", "5", "6", "7", "v1 v2 * v0 -", "8", "9", "v3")
	// Each expression beneath another one is one as well.
	p := mustResolve(t, "proc p(a, b) { emit -(a + 2) * b; }")
	for k, want := range []string{"v0 2 + neg v1 *", "v0 2 + neg", "v0 2 +", "v0", "2", "v1"} {
		if got := code.Terms(p, exprs(p.Tree)[0]+k); !slices.Equal(got, terms(want)) {
			t.Errorf("%d: %v, want %s", k, got, want)
		}
	}
	// As many variables as may be.
	src := "proc p() { "
	for i := range 64 {
		src += fmt.Sprintf("let x%d = %d; ", i, i)
	}
	p = mustResolve(t, src+"emit x63; }")
	if got := code.Terms(p, len(p.Tree.Nodes)-1); !slices.Equal(got, terms("v63")) {
		t.Errorf("%v", got)
	}
}

func wantNone(t *testing.T, p names.Program, i int) {
	t.Helper()
	if got := code.Terms(p, i); len(got) != 0 {
		t.Errorf("of the node %d of %s: %v", i, short(p.Tree), short(got))
	}
}

// Nodes that are no expression, and numbers of none.
func TestTermsOfNoExpression(t *testing.T) { // P8.1
	p := mustResolve(t, everyForm)
	seen := map[uint8]bool{}
	for i, n := range p.Tree.Nodes {
		if !isExpr(n.Kind) {
			seen[n.Kind] = true
			wantNone(t, p, i)
		} else if len(code.Terms(p, i)) == 0 {
			t.Errorf("the node %d has none", i)
		}
	}
	if len(seen) != 20 {
		t.Errorf("%d kinds: the test is not worth much", len(seen))
	}
	for _, i := range []int{math.MinInt, -2, -1, len(p.Tree.Nodes), len(p.Tree.Nodes) + 1, math.MaxInt} {
		wantNone(t, p, i)
		wantNone(t, names.Program{}, i)
	}
	wantNone(t, names.Program{}, 0)
}

// byHand is a program of these nodes, each of which stands for the variable of its own number.
func byHand(nodes ...tree.Node) names.Program {
	p := names.Program{Tree: tree.Tree{Nodes: nodes}}
	for i := range nodes {
		p.Of = append(p.Of, i)
	}
	return p
}

// What no source has: it ends, without a panic, and what is no expression has no reckoning.
func TestTermsOfTreesByHand(t *testing.T) { // P8.1
	number, plus := tree.Node{Kind: tree.Number, N: 3}, tree.Node{Kind: tree.Plus, Kids: []int{1, 2}}
	for _, p := range []names.Program{
		byHand(plus),                 // without kids
		byHand(plus, number),         // without one of them
		byHand(tree.Node{Kind: 20}),  // a row
		byHand(tree.Node{Kind: 27}),  // of no kind
		byHand(tree.Node{Kind: 255}), // of no kind
		byHand(tree.Node{}),
		byHand(tree.Node{Kind: tree.Plus, Kids: []int{0, 0}}), // beneath itself
		byHand(tree.Node{Kind: tree.Neg, Kids: []int{0}}),
		byHand(tree.Node{Kind: tree.Neg, Kids: []int{1}}, tree.Node{Kind: tree.Neg, Kids: []int{0}}),
		byHand(tree.Node{Kind: tree.Plus, Kids: []int{1, 1}}, number), // the same kid twice
		byHand(tree.Node{Kind: tree.Plus, Kids: []int{2, 1}}, number, number),
		byHand(tree.Node{Kind: tree.Plus, Kids: []int{1, 3}}, number, number, number),
		byHand(tree.Node{Kind: tree.Plus, Kids: []int{1}}, number), // too few, too many
		byHand(tree.Node{Kind: tree.Plus}),
		byHand(tree.Node{Kind: tree.Plus, Kids: []int{1, 2, 3}}, number, number, number),
		byHand(tree.Node{Kind: tree.Neg}),
		byHand(tree.Node{Kind: tree.Neg, Kids: []int{1, 2}}, number, number),
		byHand(tree.Node{Kind: tree.Number, Kids: []int{1}}, number),
		byHand(tree.Node{Kind: tree.Var, Kids: []int{1}}, number),
		byHand(tree.Node{Kind: tree.Neg, Kids: []int{-1}}, number), // of no node
		byHand(tree.Node{Kind: tree.Neg, Kids: []int{math.MaxInt}}, number),
		byHand(tree.Node{Kind: tree.Neg, Kids: []int{math.MinInt}}, number),
		byHand(tree.Node{Kind: tree.Neg, Kids: []int{1}}, tree.Node{Kind: tree.Emit}),
		byHand(plus, number, tree.Node{Kind: tree.Row, Text: "t", Kids: []int{3}}, number),
		{Tree: tree.Tree{Nodes: []tree.Node{{Kind: tree.Var, Text: "a"}}}},                   // stands for nothing
		{Tree: tree.Tree{Nodes: []tree.Node{{Kind: tree.Var, Text: "a"}}}, Of: []int{-1, 0}}, // nor does this one
	} {
		wantNone(t, p, 0)
	}
}

// Kids that are of several nodes are not gone over again and again.
func TestTermsOfKidsOfSeveral(t *testing.T) { // P8.1
	var nodes []tree.Node
	for i := range 200 {
		nodes = append(nodes, tree.Node{Kind: tree.Plus, Kids: []int{i + 1, i + 1}})
	}
	p := byHand(append(nodes, tree.Node{Kind: tree.Number})...)
	for i := range 200 {
		wantNone(t, p, i)
	}
}

// lowStack lets a function that calls itself too deep break the test, at trees that are no greater than they have to be.
func lowStack(t *testing.T) {
	before := debug.SetMaxStack(4 << 20)
	t.Cleanup(func() { debug.SetMaxStack(before) })
}

// No expression is too deep, to the left or to the right, and none takes more than a few steps a node.
func TestTermsOfAnyDepth(t *testing.T) { // P8.1, P8.2
	lowStack(t)
	const high = 300000
	ahead := []tree.Node{{Kind: tree.Program, Kids: []int{1}}, {Kind: tree.Proc, Text: "p", Kids: []int{2, 4}},
		{Kind: tree.Names, Kids: []int{3}}, {Kind: tree.Word, Text: "a"}, {Kind: tree.Block, Kids: []int{5}}, {Kind: tree.Emit, Kids: []int{6}}}
	leaf := tree.Node{Kind: tree.Var, Text: "a"}
	var right, left, signs []tree.Node
	for i := range high {
		at := len(ahead) + 2*i
		right = append(right, tree.Node{Kind: tree.Minus, Kids: []int{at + 1, at + 2}}, leaf)
		left = append(left, tree.Node{Kind: tree.Minus, Kids: []int{len(ahead) + i + 1, len(ahead) + 2*high - i}})
		signs = append(signs, tree.Node{Kind: tree.Neg, Kids: []int{len(ahead) + i + 1}})
	}
	left = append(left, slices.Repeat([]tree.Node{leaf}, high)...)
	for _, c := range []struct {
		nodes      []tree.Node
		beneath, n int
		value      int64
	}{{right, 2*high + 1, high, 5}, {left, 2*high + 1, high, 5 - 5*high}, {signs, high + 1, high, 5}} {
		x := tree.Tree{Nodes: slices.Concat(ahead, c.nodes, []tree.Node{leaf})}
		p, err := names.Resolve(nil, x)
		if err != nil {
			t.Fatal(err)
		}
		l := code.Terms(p, len(ahead))
		got, ok := code.Eval(l, []int64{5})
		if len(l) != c.beneath || got != c.value || !ok {
			t.Errorf("%d terms, %d, %t; want %d, %d", len(l), got, ok, c.beneath, c.value)
		}
		if !code.Right([]code.Instr{{Op: code.Emit, Vals: [][]code.Term{l}}, {Op: code.End}}, nil, 1) {
			t.Error("not right")
		}
	}
}

// Eval.

func wantEval(t *testing.T, l []code.Term, want int64, vars ...int64) {
	t.Helper()
	if got, ok := code.Eval(l, vars); got != want || !ok {
		t.Errorf("Eval(%s, %v) = %d, %t, want %d", short(l), vars, got, ok, want)
	}
}

func wantNotRight(t *testing.T, l []code.Term, vars ...int64) {
	t.Helper()
	if got, ok := code.Eval(l, vars); got != 0 || ok {
		t.Errorf("Eval(%s, %v) = %d, %t", short(l), vars, got, ok)
	}
	// The same reckoning is not right in an instruction either.
	if code.Right([]code.Instr{{Op: code.Emit, Vals: [][]code.Term{l}}, {Op: code.End}}, nil, len(vars)) {
		t.Errorf("Right, with %s", short(l))
	}
}

func TestEvalOfEachTerm(t *testing.T) { // P8.2
	const least, most = math.MinInt64, math.MaxInt64
	for _, n := range []int64{0, 1, -1, 7, -7, 2147483647, 1 << 40, least, most} {
		wantEval(t, []code.Term{{Kind: code.Number, N: n}}, n)
		wantEval(t, terms("v1"), n, 3, n, 4)
		wantEval(t, terms("v0 neg"), -n, n)
	}
	wantEval(t, terms("v0 v1 +"), 11, 5, 6)
	wantEval(t, terms("v0 v1 -"), -1, 5, 6)
	wantEval(t, terms("v1 v0 -"), 1, 5, 6)
	wantEval(t, terms("v0 v1 *"), 30, 5, 6)
	wantEval(t, terms("v0 v0 *"), 25, -5)
	wantEval(t, terms("7 2 - 3 -"), 2)
	wantEval(t, terms("7 2 3 - -"), 8)
	wantEval(t, terms("7 2 3 + *"), 35)
	wantEval(t, terms("7 2 * 3 +"), 17)
	wantEval(t, terms("1 2 3 4 5 - - - -"), 3)
	wantEval(t, terms("1 2 - 3 - 4 - 5 -"), -13)
	wantEval(t, terms("3 neg neg"), 3)
	wantEval(t, terms("8 3 neg -"), 11)
	wantEval(t, terms("8 neg 3 -"), -11)
	wantEval(t, terms("8 3 - neg"), -5)
}

// Numbers go round at both ends.
func TestEvalGoesRound(t *testing.T) { // P8.2, P8.6
	const least, most = math.MinInt64, math.MaxInt64
	wantEval(t, terms("v0 1 +"), least, most)
	wantEval(t, terms("v0 1 -"), most, least)
	wantEval(t, terms("v0 v0 +"), -2, most)
	wantEval(t, terms("v0 v0 +"), 0, least)
	wantEval(t, terms("v0 v1 +"), -1, most, least)
	wantEval(t, terms("v0 v1 -"), -1, most, least)
	wantEval(t, terms("v1 v0 -"), 1, most, least)
	wantEval(t, terms("v0 v0 -"), 0, least)
	wantEval(t, terms("0 v0 -"), least, least)
	wantEval(t, terms("1 neg v0 -"), most, least)
	wantEval(t, terms("1 v0 -"), least+1, least)
	wantEval(t, terms("v0 neg"), least, least)
	wantEval(t, terms("v0 neg"), -most, most)
	wantEval(t, terms("v0 neg neg"), least, least)
	wantEval(t, terms("v0 2 *"), -2, most)
	wantEval(t, terms("v0 2 *"), 0, least)
	wantEval(t, terms("v0 1 neg *"), least, least)
	wantEval(t, terms("v0 v0 *"), 1, most)
	wantEval(t, terms("v0 v0 *"), 0, least)
	wantEval(t, terms("v0 v1 *"), least, most, least)
	wantEval(t, terms("v0 v0 *"), 0, 1<<32)
	wantEval(t, terms("v0 3 *"), -(1 << 62), 1<<62)
	wantEval(t, terms("v0 v1 *"), 1, 3, -0x5555555555555555)
}

func TestEvalOfWhatIsNotRight(t *testing.T) { // P8.2
	// None.
	wantNotRight(t, nil)
	wantNotRight(t, []code.Term{}, 1, 2)
	// Too few to take.
	for _, text := range []string{"+", "-", "*", "neg", "1 +", "1 -", "1 *", "v0 +", "1 neg +", "neg 1", "+ 1 2", "1 + 2", "1 2 + +", "1 2 + 3 + -", "1 neg * 2 3", "1 2 + * 3 4"} {
		wantNotRight(t, terms(text), 5, 6)
	}
	// Too many left.
	for _, text := range []string{"1 2", "1 1", "v0 v1", "1 2 3 +", "1 2 + 3", "1 2 neg", "1 neg 2", "1 2 3 * 4 -"} {
		wantNotRight(t, terms(text), 5, 6)
	}
	// No such variable.
	for _, v := range []int{math.MinInt, -2, -1, 2, 3, math.MaxInt} {
		x := code.Term{Kind: code.Var, Var: v}
		wantNotRight(t, []code.Term{x}, 5, 6)
		wantNotRight(t, append(terms("1"), x, code.Term{Kind: code.Plus}), 5, 6)
		wantNotRight(t, append([]code.Term{x}, terms("1 -")...), 5, 6)
	}
	wantNotRight(t, terms("v0"))
	wantNotRight(t, terms("v0 v0 *"))
	wantNotRight(t, terms("v1"), 5)
	// No such kind.
	for kind := 0; kind < 256; kind++ {
		if 1 <= kind && kind <= 6 {
			continue
		}
		x := code.Term{Kind: uint8(kind), N: 4}
		wantNotRight(t, []code.Term{x}, 5)
		wantNotRight(t, append(terms("1"), x), 5)
		wantNotRight(t, append(terms("1 2"), x), 5)
		wantNotRight(t, append([]code.Term{x}, terms("1")...), 5)
		wantNotRight(t, append([]code.Term{x}, terms("1 +")...), 5)
	}
}

// drawTerms draws a reckoning; slips times of a hundred a term is any one.
func drawTerms(r *rand.Rand, vars, slips int) []code.Term {
	var l []code.Term
	high := 0
	for len(l) == 0 || r.Intn(8) > 0 || high != 1 && r.Intn(200) > 0 {
		x := code.Term{Kind: uint8(1 + r.Intn(6)), N: int64(r.Uint64() >> r.Intn(64)), Var: r.Intn(vars)}
		switch {
		case r.Intn(100) < slips:
			x.Kind, x.Var = uint8(r.Intn(8)), r.Intn(vars+2)-1
		case high == 0 || high == 1 && x.Kind < code.Neg:
			x.Kind = uint8(1 + r.Intn(2))
		case high > 3:
			x.Kind = uint8(3 + r.Intn(3))
		}
		high += []int{0, 1, 1, -1, -1, -1, 0, 0}[x.Kind]
		l = append(l, x)
	}
	return l
}

func TestDrawnReckonings(t *testing.T) { // P8.2
	r := rand.New(rand.NewSource(81))
	right, wrong := 0, 0
	for range 40000 {
		vars := make([]int64, 1+r.Intn(4))
		for i := range vars {
			vars[i] = []int64{int64(r.Uint64()), int64(r.Intn(9) - 4), math.MinInt64, math.MaxInt64}[r.Intn(4)]
		}
		l := drawTerms(r, len(vars), []int{0, 10}[r.Intn(2)])
		want, wantOk := evalAs(l, vars)
		if got, ok := code.Eval(l, vars); got != want || ok != wantOk {
			t.Fatalf("Eval(%v, %v) = %d, %t, want %d, %t", l, vars, got, ok, want, wantOk)
		}
		if wantOk && len(l) > 4 {
			right++
		} else if !wantOk {
			wrong++
		}
	}
	if right < 5000 || wrong < 5000 {
		t.Errorf("%d right, %d wrong: the test is not worth much", right, wrong)
	}
}

// All short rows of terms.
func TestAllShortReckonings(t *testing.T) { // P8.2
	all := append(terms("3 v0 v1 v2 + - * neg"), code.Term{}, code.Term{Kind: code.Var, Var: -1})
	vars := []int64{-7, 5}
	rows := [][]code.Term{nil}
	for range 5 {
		var longer [][]code.Term
		for _, l := range rows {
			want, wantOk := evalAs(l, vars)
			if got, ok := code.Eval(l, vars); got != want || ok != wantOk {
				t.Fatalf("Eval(%v) = %d, %t, want %d, %t", l, got, ok, want, wantOk)
			}
			for _, x := range all {
				longer = append(longer, append(slices.Clone(l), x))
			}
		}
		rows = longer
	}
}

// Right.

const procVars = 3

// twoTables are tables for instructions to be right for: of as many columns, so that an instruction of one is right of the other.
var twoTables = []int{2, 2}

// bases has an instruction of each kind that is right for twoTables and procVars, as the first of two.
func bases() []code.Instr {
	key, one := terms("v0 1 +"), [][]code.Term{terms("7")}
	two := [][]code.Term{terms("v2"), terms("1 neg")}
	return []code.Instr{
		{Op: code.Ask, Mode: api.S, Table: 1},
		{Op: code.Ask, Mode: api.S, Table: 1, Row: true, Key: key},
		{Op: code.Free, Table: 1},
		{Op: code.Free, Table: 1, Row: true, Key: key},
		{Op: code.Read, Table: 1, Key: key, Col: 1, Var: 2},
		{Op: code.Set, Table: 1, Key: key, Col: 1, Vals: one},
		{Op: code.Put, Table: 1, Key: key, Vals: two},
		{Op: code.Delete, Table: 1, Key: key},
		{Op: code.Scan, Table: 1, Col: 1, Var: 2},
		{Op: code.Let, Var: 2, Vals: one},
		{Op: code.Emit, Vals: one},
		{Op: code.Jump, To: 1},
		{Op: code.Unless, Equal: true, Vals: two, To: 1},
		{Op: code.Begin, Var: 2, From: 3, Upto: 4, To: 1},
		{Op: code.Next, Var: 2, Upto: 4, To: 1},
		{Op: code.Rollback},
		{Op: code.Piece},
	}
}

// with is an instruction with another value in a field.
func with(x code.Instr, field string, value any) code.Instr {
	reflect.ValueOf(&x).Elem().FieldByName(field).Set(reflect.ValueOf(value))
	return x
}

func wantRight(t *testing.T, want bool, l ...code.Instr) {
	t.Helper()
	if got := code.Right(l, twoTables, procVars); got != want {
		t.Errorf("Right(%s) = %t", short(l), got)
	}
}

var end = code.Instr{Op: code.End}

// What each field may be where it is named, and what not.
func fieldValues() (may, not map[string][]any) {
	const least, most = math.MinInt64, math.MaxInt64
	may = map[string][]any{
		"Mode": {api.S, api.X}, "Table": {0, 1}, "Col": {0, 1}, "Var": {0, 1, 2}, "To": {0, 1}, "Equal": {false, true},
		"From": {int64(0), int64(1), int64(-1), int64(least), int64(most)}, "Upto": {int64(0), int64(1), int64(-1), int64(least), int64(most)},
		"Key": {terms("0"), terms("v2"), terms("v0 v1 *"), []code.Term{{Kind: code.Number, N: least}}},
	}
	not = map[string][]any{
		"Mode":  {api.None, api.SIX, api.X + 1, api.Mode(255)},
		"Table": {-1, 2, math.MinInt, math.MaxInt}, "Col": {-1, 2, math.MinInt, math.MaxInt}, "Var": {-1, 3, math.MinInt, math.MaxInt},
		"To":  {-1, 2, math.MinInt, math.MaxInt},
		"Key": {[]code.Term(nil), []code.Term{}, terms("v3"), terms("1 2"), terms("+"), []code.Term{{Kind: 9}}, []code.Term{{Kind: code.Var, Var: -1}}},
	}
	return may, not
}

// Each instruction, with each of its fields as it may be, and each field, one at a time, as it may not.
func TestRightOfEachField(t *testing.T) { // P8.3
	may, not := fieldValues()
	nought := map[string][]any{
		"Mode": {api.S, api.IX, api.Mode(255)}, "Table": {1, -1, 9}, "Row": {true}, "Col": {1, -1}, "Var": {1, -1}, "To": {1, -1}, "Equal": {true},
		"From": {int64(1), int64(-1)}, "Upto": {int64(1), int64(-1)}, "Key": {terms("1"), terms("+")},
	}
	for _, x := range bases() {
		wantRight(t, true, x, end)
		l := chapter[x.Op]
		for _, field := range allFields() {
			if field == "Row" && l.byRow {
				continue
			}
			if !l.names(x, field) {
				for _, value := range nought[field] {
					wantRight(t, false, with(x, field, value), end)
				}
				continue
			}
			for _, value := range may[field] {
				wantRight(t, true, with(x, field, value), end)
			}
			for _, value := range not[field] {
				wantRight(t, false, with(x, field, value), end)
			}
		}
		for _, node := range []int{1, 77, -1, math.MinInt, math.MaxInt} {
			wantRight(t, true, with(x, "Node", node), with(end, "Node", node))
		}
	}
	// A list that is empty is no other than none.
	wantRight(t, true, code.Instr{Op: code.Emit, Key: []code.Term{}, Vals: [][]code.Term{terms("1")}}, end)
	for field, values := range nought {
		for _, value := range values {
			wantRight(t, false, with(end, field, value))
		}
	}
	wantRight(t, false, with(end, "Vals", [][]code.Term{terms("1")}))
	wantRight(t, true, code.Instr{Op: code.End, Key: []code.Term{}, Vals: [][]code.Term{}})
}

// Locks of tables and of rows: in which modes, and with a key just if of a row.
func TestRightOfLocks(t *testing.T) { // P8.3
	key := terms("1")
	for m := 0; m < 256; m++ {
		mode := api.Mode(m)
		ofRow := mode == api.S || mode == api.X
		wantRight(t, ofRow || mode == api.IS || mode == api.IX, code.Instr{Op: code.Ask, Mode: mode}, end)
		wantRight(t, ofRow, code.Instr{Op: code.Ask, Mode: mode, Row: true, Key: key}, end)
		wantRight(t, false, code.Instr{Op: code.Ask, Mode: mode, Row: true}, end)
		wantRight(t, false, code.Instr{Op: code.Ask, Mode: mode, Key: key}, end)
		wantRight(t, m == 0, code.Instr{Op: code.Free, Mode: mode}, end)
		wantRight(t, m == 0, code.Instr{Op: code.Free, Mode: mode, Row: true, Key: key}, end)
	}
	wantRight(t, false, code.Instr{Op: code.Free, Row: true}, end)
	wantRight(t, false, code.Instr{Op: code.Free, Key: key}, end)
}

// As many values as there have to be, each of them right.
func TestRightOfValues(t *testing.T) { // P8.3
	for _, x := range bases() {
		for count := range 5 {
			var vals [][]code.Term
			for range count {
				vals = append(vals, terms("v0 1 -"))
			}
			wantRight(t, count == len(x.Vals), with(x, "Vals", vals), end)
			for k := range vals {
				for _, wrong := range [][]code.Term{nil, {}, terms("v3"), terms("1 +"), terms("1 2"), {{Kind: 7}}} {
					slipped := slices.Clone(vals)
					slipped[k] = wrong
					wantRight(t, false, with(x, "Vals", slipped), end)
				}
			}
		}
		wantRight(t, len(x.Vals) == 0, with(x, "Vals", [][]code.Term{}), end)
	}
}

// What a table's columns say of it alone.
func TestRightForTables(t *testing.T) { // P8.3
	put := func(table, count int) []code.Instr {
		return []code.Instr{{Op: code.Put, Table: table, Key: terms("1"), Vals: slices.Repeat([][]code.Term{terms("2")}, count)}, end}
	}
	tables := []int{1, 3, 16, 0, -1, math.MinInt, math.MaxInt}
	for table, cols := range tables {
		for _, count := range []int{0, 1, 2, 3, 4, 15, 16, 17} {
			if got := code.Right(put(table, count), tables, 0); got != (count == cols) {
				t.Errorf("Put of %d in %d columns: %t", count, cols, got)
			}
		}
		for _, col := range []int{-1, 0, 1, 2, 3, 15, 16, math.MaxInt, math.MinInt} {
			want := col >= 0 && col < cols
			for _, x := range []code.Instr{{Op: code.Read, Key: terms("1")}, {Op: code.Set, Key: terms("1"), Vals: [][]code.Term{terms("1")}}, {Op: code.Scan}} {
				x.Table, x.Col = table, col
				if got := code.Right([]code.Instr{x, end}, tables, 1); got != want {
					t.Errorf("%v, of %d columns: %t", x, cols, got)
				}
			}
		}
	}
	for _, x := range bases() {
		needs := slices.Contains(chapter[x.Op].fields, "Table")
		for _, none := range [][]int{nil, {}} {
			if got := code.Right([]code.Instr{x, end}, none, procVars); got == needs {
				t.Errorf("%v, without tables: %t", x, got)
			}
		}
	}
}

// For so many variables: none, fewer than none, and as many as there is no room for.
func TestRightForVariables(t *testing.T) { // P8.3
	uses := func(v int) [][]code.Instr {
		ofVar := [][]code.Term{{{Kind: code.Var, Var: v}}}
		return [][]code.Instr{
			{{Op: code.Emit, Vals: ofVar}, end}, {{Op: code.Delete, Key: ofVar[0]}, end}, {{Op: code.Let, Var: v, Vals: [][]code.Term{terms("1")}}, end},
			{{Op: code.Scan, Var: v}, end}, {{Op: code.Begin, Var: v}, end}, {{Op: code.Next, Var: v}, end}, {{Op: code.Read, Key: terms("1"), Var: v}, end},
		}
	}
	for _, vars := range []int{math.MinInt, -1, 0, 1, 2, 64, 65, math.MaxInt} {
		for _, v := range []int{math.MinInt, -1, 0, 1, 2, 63, 64, math.MaxInt - 1, math.MaxInt} {
			for _, l := range uses(v) {
				if got := code.Right(l, twoTables, vars); got != (v >= 0 && v < vars) {
					t.Errorf("%v, for %d variables: %t", l, vars, got)
				}
			}
		}
		if !code.Right([]code.Instr{end}, nil, vars) {
			t.Errorf("for %d variables nothing is right", vars)
		}
	}
}

// An Op that is none.
func TestRightOfEachOp(t *testing.T) { // P8.3
	for op := 0; op < 256; op++ {
		x := code.Instr{Op: uint8(op)}
		isBare := x.Op == code.Rollback || x.Op == code.Piece
		isLoop := x.Op == code.Jump || x.Op == code.Begin || x.Op == code.Next
		isTable := x.Op == code.Free || x.Op == code.Scan
		wantRight(t, isBare || isLoop || isTable, x, end)
		wantRight(t, x.Op == code.End, x)
	}
}

// End: just one, and just behind all others.
func TestRightOfEnd(t *testing.T) { // P8.3
	emit := code.Instr{Op: code.Emit, Vals: [][]code.Term{terms("1")}}
	wantRight(t, true, end)
	wantRight(t, true, emit, end)
	wantRight(t, true, emit, emit, emit, end)
	wantRight(t, false)
	if code.Right([]code.Instr{}, nil, 0) || code.Right(nil, nil, 0) {
		t.Error("no instruction at all")
	}
	wantRight(t, false, emit)
	wantRight(t, false, emit, emit)
	wantRight(t, false, end, end)
	wantRight(t, false, end, emit)
	wantRight(t, false, emit, end, emit)
	wantRight(t, false, emit, end, emit, end)
	wantRight(t, false, end, emit, end)
	wantRight(t, false, emit, code.Instr{Op: code.Piece})
	wantRight(t, true, code.Instr{Op: code.Piece}, end)
	// A jump to a place that is none, in longer rows.
	wantRight(t, true, code.Instr{Op: code.Jump, To: 2}, emit, end)
	wantRight(t, false, code.Instr{Op: code.Jump, To: 3}, emit, end)
	wantRight(t, true, emit, code.Instr{Op: code.Jump}, end)
	wantRight(t, false, emit, code.Instr{Op: code.Jump, To: -1}, end)
}

// jumps are the instructions with a To.
func jumps(to int) []code.Instr {
	return []code.Instr{{Op: code.Jump, To: to}, {Op: code.Unless, Vals: [][]code.Term{terms("1"), terms("2")}, To: to}, {Op: code.Begin, To: to}, {Op: code.Next, To: to}}
}

// A Piece with each jump ahead of it and behind it: over it, to it, and up to it.
func TestRightOfPieces(t *testing.T) { // P8.3
	emit, piece := code.Instr{Op: code.Emit, Vals: [][]code.Term{terms("1")}}, code.Instr{Op: code.Piece}
	for kind := range 4 {
		jump := func(to int) code.Instr { return jumps(to)[kind] }
		for to, want := range []bool{true, true, true, false, false, false} {
			wantRight(t, want, emit, jump(to), piece, emit, emit, end) // ahead: it is at 2
		}
		for to, want := range []bool{false, false, true, true, true, true} {
			wantRight(t, want, emit, piece, emit, jump(to), emit, end) // behind: it is at 1
		}
		for to, want := range []bool{false, false, true, true, true, false, false} {
			wantRight(t, want, emit, piece, jump(to), emit, piece, emit, end) // between two
		}
		// Behind the last instruction but End, and ahead of the first one.
		for to, want := range []bool{true, true, false} {
			wantRight(t, want, jump(to), piece, end)
		}
		for to, want := range []bool{false, true, true} {
			wantRight(t, want, piece, jump(to), end)
		}
		// Over two of them, over one of two.
		wantRight(t, false, jump(3), piece, piece, end)
		wantRight(t, false, jump(2), piece, piece, end)
		wantRight(t, true, jump(1), piece, piece, end)
		wantRight(t, false, piece, piece, jump(0), end)
		wantRight(t, false, piece, piece, jump(1), end)
		wantRight(t, true, piece, piece, jump(2), end)
	}
	wantRight(t, true, piece, piece, piece, end)
	wantRight(t, true, emit, piece, emit, piece, emit, end)
}

// All short rows of jumps, pieces and what is neither.
func TestAllShortRows(t *testing.T) { // P8.3
	emit, piece := code.Instr{Op: code.Emit, Vals: [][]code.Term{terms("1")}}, code.Instr{Op: code.Piece}
	right, wrong := 0, 0
	for size := 1; size <= 6; size++ {
		choices := []code.Instr{emit, piece}
		for to := range size {
			choices = append(choices, jumps(to)[(to+size)%4])
		}
		picks := make([]int, size-1)
		for more := true; more; {
			var l []code.Instr
			for _, pick := range picks {
				l = append(l, choices[pick])
			}
			l = append(l, end)
			want := rightAs(l, nil, 1)
			if got := code.Right(l, nil, 1); got != want {
				t.Fatalf("Right(%v) = %t", l, got)
			}
			if want {
				right++
			} else {
				wrong++
			}
			more = false
			for i := range picks {
				picks[i]++
				if picks[i] < len(choices) {
					more = true
					break
				}
				picks[i] = 0
			}
		}
	}
	if right < 1000 || wrong < 1000 {
		t.Errorf("%d right, %d wrong: the test is not worth much", right, wrong)
	}
}

// drawInstr draws an instruction that is right but for its Piece; of so many places.
func drawInstr(r *rand.Rand, places int) code.Instr {
	all := bases()
	x := all[r.Intn(len(all))]
	if r.Intn(3) > 0 && x.Op == code.Piece {
		x = all[r.Intn(len(all))]
	}
	if x.Key != nil {
		x.Key = drawTerms(r, procVars, 0)
	}
	x.Vals = slices.Clone(x.Vals)
	for i := range x.Vals {
		x.Vals[i] = drawTerms(r, procVars, 0)
	}
	if slices.Contains(chapter[x.Op].fields, "To") {
		x.To = r.Intn(places)
	}
	x.Node = r.Intn(9)
	return x
}

// spoil changes one field of an instruction to any value.
func spoil(r *rand.Rand, x code.Instr) code.Instr {
	fields := append(allFields(), "Op", "Vals")
	field := fields[r.Intn(len(fields))]
	values := map[string][]any{
		"Op": {uint8(r.Intn(18))}, "Mode": {api.Mode(r.Intn(7))}, "Table": {r.Intn(4) - 1}, "Row": {true, false}, "Col": {r.Intn(4) - 1}, "Var": {r.Intn(6) - 1},
		"To": {r.Intn(9) - 1}, "Equal": {true, false}, "From": {int64(r.Intn(3) - 1)}, "Upto": {int64(r.Intn(3) - 1)},
		"Key":  {drawTerms(r, procVars, 20), []code.Term(nil), []code.Term{}},
		"Vals": {[][]code.Term(nil), [][]code.Term{drawTerms(r, procVars, 10)}, [][]code.Term{drawTerms(r, procVars, 0), drawTerms(r, procVars, 10)}},
	}[field]
	return with(x, field, values[r.Intn(len(values))])
}

func drawRow(r *rand.Rand) []code.Instr {
	size := 1 + r.Intn(7)
	var l []code.Instr
	for range size - 1 {
		l = append(l, drawInstr(r, size))
	}
	return append(l, end)
}

func TestDrawnRows(t *testing.T) { // P8.3
	r := rand.New(rand.NewSource(82))
	right, wrong, spoilt := 0, 0, 0
	tables := [][]int{{2, 2}, {2, 1}, {3, 2}, {2}, {2, 2, 2}}
	for range 30000 {
		l, of, vars := drawRow(r), twoTables, procVars
		if r.Intn(3) == 0 {
			i := r.Intn(len(l))
			l[i] = spoil(r, l[i])
			spoilt++
		}
		if r.Intn(8) == 0 {
			of, vars = tables[r.Intn(len(tables))], 2+r.Intn(3)
		}
		want := rightAs(l, of, vars)
		if got := code.Right(l, of, vars); got != want {
			t.Fatalf("Right(%v, %v, %d) = %t", l, of, vars, got)
		}
		if want {
			right++
		} else {
			wrong++
		}
	}
	if right < 5000 || wrong < 5000 || spoilt < 5000 {
		t.Errorf("%d right, %d wrong: the test is not worth much", right, wrong)
	}
}

// Many instructions take no more than a few steps each.
func TestRightOfManyPieces(t *testing.T) { // P8.3
	const long = 400000
	l := make([]code.Instr, 0, long+1)
	for i := range long {
		if i%2 == 0 {
			l = append(l, code.Instr{Op: code.Jump, To: i + 1})
		} else {
			l = append(l, code.Instr{Op: code.Piece})
		}
	}
	l = append(l, end)
	if !code.Right(l, nil, 0) {
		t.Error("not right")
	}
	l[long-2].To = long
	if code.Right(l, nil, 0) {
		t.Error("right")
	}
}

// Same.

func wantSame(t *testing.T, want bool, a, b []code.Instr) {
	t.Helper()
	if got, back := code.Same(a, b), code.Same(b, a); got != want || back != want {
		t.Errorf("Same(%s, %s) = %t, %t", short(a), short(b), got, back)
	}
}

func TestSame(t *testing.T) { // P8.4
	full := code.Instr{Op: 200, Node: 1, Mode: 2, Table: 3, Row: true, Col: 4, Var: 5, To: 6, Equal: true, From: 7, Upto: 8, Key: terms("1 v2 +"), Vals: [][]code.Term{terms("3"), terms("v4 neg")}}
	others := map[string][]any{
		"Op": {uint8(0), uint8(201)}, "Mode": {api.None, api.Mode(3)}, "Table": {0, 4, -3}, "Row": {false}, "Col": {0, 5, -4}, "Var": {0, 6, -5}, "To": {0, 7, -6},
		"Equal": {false}, "From": {int64(0), int64(8), int64(-7)}, "Upto": {int64(0), int64(9), int64(-8)},
		"Key": {terms(""), terms("1"), terms("1 v2"), terms("1 v2 + neg"), terms("1 v2 -"), terms("1 v1 +"), terms("2 v2 +"), terms("v2 1 +"),
			[]code.Term{{Kind: 1, N: 1, Var: 1}, {Kind: 2, Var: 2}, {Kind: 3}}, []code.Term{{Kind: 1, N: 1}, {Kind: 2, Var: 2, N: 9}, {Kind: 3}}},
		"Vals": {[][]code.Term(nil), [][]code.Term{terms("3")}, [][]code.Term{terms("v4 neg"), terms("3")}, [][]code.Term{terms("3"), terms("v4")}, [][]code.Term{terms("3"), nil}, [][]code.Term{terms("3"), terms("v4 neg"), nil}, [][]code.Term{terms("4"), terms("v4 neg")}},
	}
	same := func() []code.Instr { return []code.Instr{end, cloneInstr(full), {}} }
	wantSame(t, true, same(), same())
	for _, field := range append(allFields(), "Op", "Vals") {
		if len(others[field]) == 0 {
			t.Fatalf("nothing else for %s", field)
		}
		for _, value := range others[field] {
			for _, i := range []int{0, 1, 2} {
				x := same()
				x[i] = with(cloneInstr(full), field, value)
				y := same()
				y[i] = cloneInstr(full)
				wantSame(t, false, x, y)
			}
		}
	}
	for _, node := range []int{0, -1, math.MaxInt} {
		x := same()
		for i := range x {
			x[i].Node = node
		}
		wantSame(t, true, x, same())
	}
}

func TestSameOfOtherLengths(t *testing.T) { // P8.4
	emit := code.Instr{Op: code.Emit, Vals: [][]code.Term{terms("1")}}
	wantSame(t, true, nil, nil)
	wantSame(t, true, nil, []code.Instr{})
	wantSame(t, false, nil, []code.Instr{{}})
	wantSame(t, false, []code.Instr{emit}, []code.Instr{emit, emit})
	wantSame(t, false, []code.Instr{emit, end}, []code.Instr{emit})
	wantSame(t, false, []code.Instr{emit, end}, []code.Instr{end, emit})
	wantSame(t, true, []code.Instr{emit, end}, []code.Instr{emit, end})
	// No list and one without anything mean the same, inside as well.
	one := func(key []code.Term, vals [][]code.Term) []code.Instr { return []code.Instr{{Key: key, Vals: vals}} }
	wantSame(t, true, one(nil, nil), one([]code.Term{}, [][]code.Term{}))
	wantSame(t, true, one(nil, [][]code.Term{nil}), one(nil, [][]code.Term{{}}))
	wantSame(t, false, one(nil, nil), one(nil, [][]code.Term{nil}))
	wantSame(t, false, one(nil, [][]code.Term{nil}), one(nil, [][]code.Term{nil, nil}))
	wantSame(t, false, one(nil, nil), one([]code.Term{{}}, nil))
}

func TestSameOfDrawnRows(t *testing.T) { // P8.4
	r := rand.New(rand.NewSource(83))
	differs := 0
	for range 20000 {
		l := drawRow(r)
		other := cloneRow(l)
		wantSame(t, true, l, other)
		i := r.Intn(len(l))
		other[i] = spoil(r, other[i])
		a, b := l[i], other[i]
		want := reflect.DeepEqual(a, b) || fmt.Sprint(a) == fmt.Sprint(b)
		wantSame(t, want, l, other)
		if !want {
			differs++
		}
		other[i].Node++
		wantSame(t, want, l, other)
		wantSame(t, false, l, append(other, end))
		if t.Failed() {
			return
		}
	}
	if differs < 5000 {
		t.Errorf("%d differ: the test is not worth much", differs)
	}
}

// Memory.

func cloneInstr(x code.Instr) code.Instr { return cloneRow([]code.Instr{x})[0] }

// cloneRow is a row with what lies behind its lists, and behind it.
func cloneRow(l []code.Instr) []code.Instr {
	all := slices.Clone(l[:cap(l)])
	for i, x := range all {
		all[i].Key = slices.Clone(x.Key[:cap(x.Key)])[:len(x.Key)]
		all[i].Vals = slices.Clone(x.Vals[:cap(x.Vals)])
		for k, value := range all[i].Vals {
			all[i].Vals[k] = slices.Clone(value[:cap(value)])[:len(value)]
		}
		all[i].Vals = all[i].Vals[:len(x.Vals)]
	}
	return all[:len(l)]
}

// behind is a list with room behind it, which is filled with what would spoil it.
func behind[T any](l []T, filling ...T) []T {
	return append(slices.Clone(l), filling...)[:len(l)]
}

// roomyRow is a row with room behind each list.
func roomyRow(l []code.Instr) []code.Instr {
	more := terms("+ 1 v9")
	all := behind(l, end, code.Instr{Op: 77, Key: more}, code.Instr{Op: code.Piece})
	for i, x := range all {
		all[i].Key = behind(x.Key, more...)
		all[i].Vals = behind(x.Vals, nil, more)
		for k, value := range x.Vals {
			all[i].Vals[k] = behind(value, more...)
		}
	}
	return all
}

// laid tells all of a value's memory, what lies behind its lists included.
func laid(x any) string {
	var b strings.Builder
	var tell func(v reflect.Value)
	tell = func(v reflect.Value) {
		switch v.Kind() {
		case reflect.Slice:
			fmt.Fprintf(&b, "[%d:", v.Len())
			all := v.Slice(0, v.Cap())
			for i := range all.Len() {
				tell(all.Index(i))
			}
			b.WriteString("]")
		case reflect.Struct:
			b.WriteString("{")
			for i := range v.NumField() {
				tell(v.Field(i))
			}
			b.WriteString("}")
		default:
			fmt.Fprintf(&b, "%v ", v)
		}
	}
	tell(reflect.ValueOf(x))
	return b.String()
}

// P8.5: nothing that is handed in is written to, nor is what lies behind it asked.
func TestRowsAreOnlyRead(t *testing.T) {
	r := rand.New(rand.NewSource(84))
	for range 3000 {
		l := drawRow(r)
		if r.Intn(2) == 0 {
			i := r.Intn(len(l))
			l[i] = spoil(r, l[i])
		}
		x, y, tables := roomyRow(l), roomyRow(l), behind(twoTables, 7, -7)
		before := laid(x) + laid(y) + laid(tables)
		right := code.Right(x, tables, procVars)
		same := code.Same(x, y)
		if after := laid(x) + laid(y) + laid(tables); after != before {
			t.Fatalf("written to: %s\n%s", before, after)
		}
		if right != rightAs(l, twoTables, procVars) || !same {
			t.Fatalf("Right(%v) = %t, Same %t", l, right, same)
		}
	}
}

func TestReckoningsAreOnlyRead(t *testing.T) { // P8.5
	r := rand.New(rand.NewSource(85))
	for range 3000 {
		l := drawTerms(r, 2, 5)
		x, vars := behind(l, terms("+ neg v9 1")...), behind([]int64{3, -4}, 5, 6, 7)
		before := laid(x) + laid(vars)
		got, ok := code.Eval(x, vars)
		if after := laid(x) + laid(vars); after != before {
			t.Fatalf("written to: %s\n%s", before, after)
		}
		if want, wantOk := evalAs(l, []int64{3, -4}); got != want || ok != wantOk {
			t.Fatalf("Eval(%v) = %d, %t", l, got, ok)
		}
	}
}

// roomyProgram is a program with room behind what Terms reads.
func roomyProgram(p names.Program) names.Program {
	p.Of = behind(p.Of, 3, 4, 5)
	p.Tree.Nodes = behind(p.Tree.Nodes, tree.Node{Kind: tree.Number, N: 5}, tree.Node{Kind: tree.Neg, Kids: []int{0}})
	for i, n := range p.Tree.Nodes {
		p.Tree.Nodes[i].Kids = behind(n.Kids, 1, -1, 0)
	}
	return p
}

// P8.5: a program is only read, and its reckonings are new memory.
func TestProgramsAreOnlyRead(t *testing.T) {
	p := roomyProgram(mustResolve(t, everyForm))
	before := laid(p)
	var all [][]code.Term
	for i, n := range p.Tree.Nodes {
		one, two := code.Terms(p, i), code.Terms(p, i)
		if laid(p) != before {
			t.Fatalf("of %d: written to", i)
		}
		if !isExpr(n.Kind) {
			continue
		}
		all = append(all, two)
		// Whatever is written over one answer, and behind it, is nothing to the others.
		spoilt := one[:cap(one)]
		for k := range spoilt {
			spoilt[k] = code.Term{Kind: 99, N: 99, Var: 99}
		}
		if !slices.Equal(two, termsAs(p, i)) || !slices.Equal(code.Terms(p, i), two) || laid(p) != before {
			t.Fatalf("of %d: an answer is shared", i)
		}
	}
	k := 0
	for i, n := range p.Tree.Nodes {
		if isExpr(n.Kind) {
			if !slices.Equal(all[k], termsAs(p, i)) {
				t.Errorf("of %d: %v", i, all[k])
			}
			k++
		}
	}
	// What becomes of the program afterwards is nothing to what was answered.
	i := slices.IndexFunc(p.Tree.Nodes, func(n tree.Node) bool { return n.Kind == tree.Plus })
	l := code.Terms(p, i)
	want := slices.Clone(l)
	clear(p.Tree.Nodes)
	clear(p.Of)
	if !slices.Equal(l, want) {
		t.Error("the answer has changed")
	}
	// Behind the last node there is none.
	q := roomyProgram(mustResolve(t, everyForm))
	wantNone(t, q, len(q.Tree.Nodes))
	q = byHand(tree.Node{Kind: tree.Neg, Kids: []int{1}}, tree.Node{Kind: tree.Number})
	q.Tree.Nodes = q.Tree.Nodes[:1]
	wantNone(t, q, 0)
}

// What follows.

// writer writes sources whose expressions' values it reckons as it goes.
type writer struct {
	*rand.Rand
	names  []string
	values []*big.Int
}

// expr writes an expression, and tells what it means.
func (w *writer) expr(deep int) (string, *big.Int) {
	kind := w.Intn(8)
	if deep == 0 {
		kind = w.Intn(2)
	}
	switch kind {
	case 0:
		n := []int64{0, 1, 2, 7, math.MaxInt32, w.Int63n(1 << 31)}[w.Intn(6)]
		return fmt.Sprint(n), big.NewInt(n)
	case 1:
		i := w.Intn(len(w.names))
		return w.names[i], w.values[i]
	case 2:
		a, x := w.expr(deep - 1)
		return "-(" + a + ")", new(big.Int).Neg(x)
	case 3, 4:
		// Without brackets, from the left on.
		a, x := w.expr(deep - 1)
		b, y := w.expr(deep - 1)
		c, z := w.expr(deep - 1)
		x = new(big.Int).Sub(x, y)
		return "(" + a + ") - (" + b + ") - (" + c + ")", x.Sub(x, z)
	}
	a, x := w.expr(deep - 1)
	b, y := w.expr(deep - 1)
	switch kind {
	case 5:
		return "(" + a + ") + " + "(" + b + ")", new(big.Int).Add(x, y)
	case 6:
		return "(" + a + ") - " + "(" + b + ")", new(big.Int).Sub(x, y)
	}
	return "(" + a + ") * " + "(" + b + ")", new(big.Int).Mul(x, y)
}

// P8.6: a reckoning tells what its expression means, whatever the variables, by their names.
func TestReckoningsMeanTheirExpressions(t *testing.T) {
	r := rand.New(rand.NewSource(86))
	for range 4000 {
		w := &writer{Rand: r, names: []string{"c", "a", "b", "a2"}}
		r.Shuffle(len(w.names), func(i, k int) { w.names[i], w.names[k] = w.names[k], w.names[i] })
		vars := make([]int64, len(w.names))
		for i := range vars {
			vars[i] = []int64{int64(r.Uint64()), int64(r.Intn(9) - 4), math.MinInt64, math.MaxInt64}[r.Intn(4)]
			w.values = append(w.values, big.NewInt(vars[i]))
		}
		text, x := w.expr(1 + r.Intn(5))
		p := mustResolve(t, "proc p("+strings.Join(w.names[:3], ", ")+") { let "+w.names[3]+" = 0; emit "+text+"; }")
		outer := exprs(p.Tree)
		l := code.Terms(p, outer[len(outer)-1])
		if got, ok := code.Eval(l, vars); got != wrapped(x) || !ok {
			t.Fatalf("%s, with %v being %v: %d, %t, want %d", text, w.names, vars, got, ok, wrapped(x))
		}
	}
}

// P8.6: each reckoning of a program is right for its procedure's variables, and is what the second reading says (P8.1).
func TestReckoningsAreRight(t *testing.T) {
	r := rand.New(rand.NewSource(87))
	count := 0
	for range 600 {
		src := "table t(c, d); "
		var sizes []int
		for proc := range 1 + r.Intn(3) {
			w := &writer{Rand: r, names: []string{"a"}, values: []*big.Int{new(big.Int)}}
			src += fmt.Sprintf("proc p%d(a) { ", proc)
			expr := func() string {
				text, _ := w.expr(r.Intn(4))
				return text
			}
			for i := range r.Intn(6) {
				src += fmt.Sprintf([]string{"let x%d = %s; ", "read x%d = t[%s].c; "}[r.Intn(2)], i, expr())
				w.names, w.values = append(w.names, fmt.Sprintf("x%d", i)), append(w.values, new(big.Int))
			}
			src += "put t[" + expr() + "](" + expr() + ", " + expr() + "); if " + expr() + " < " + expr() + " { set t[" + expr() + "].d = " + expr() + "; } "
			src += "for i = 1 to 9 { emit i * (" + expr() + "); } release t[" + expr() + "]; delete t[" + expr() + "]; } "
			sizes = append(sizes, len(w.names)+1)
		}
		p := mustResolve(t, src)
		for n, proc := range p.Procs {
			vars := make([]int64, len(proc.Vars))
			if len(vars) != sizes[n] {
				t.Fatalf("%d variables", len(vars))
			}
			for i := range vars {
				vars[i] = int64(r.Uint64())
			}
			behindIt := proc.Root + tree.Size(p.Tree, proc.Root)
			for i := proc.Root; i < behindIt; i++ {
				l := code.Terms(p, i)
				if !isExpr(p.Tree.Nodes[i].Kind) {
					if len(l) != 0 {
						t.Fatalf("%s: of %d: %v", src, i, l)
					}
					continue
				}
				count++
				want, _ := evalAs(l, vars)
				got, ok := code.Eval(l, vars)
				if !slices.Equal(l, termsAs(p, i)) || !ok || got != want {
					t.Fatalf("%s: of %d: %v, %d, %t", src, i, l, got, ok)
				}
				if !code.Right([]code.Instr{{Op: code.Delete, Key: l}, {Op: code.End}}, []int{2}, len(vars)) {
					t.Fatalf("%s: of %d: not right for %d variables", src, i, len(vars))
				}
			}
		}
	}
	if count < 10000 {
		t.Errorf("%d expressions: the test is not worth much", count)
	}
}

// As every call: the answers hang on what is handed in alone, whoever asks beside it.
func TestTheSameAgain(t *testing.T) {
	r := rand.New(rand.NewSource(88))
	p := mustResolve(t, everyForm)
	var rows [][]code.Instr
	for range 60 {
		rows = append(rows, drawRow(r))
	}
	ask := func(i int) string {
		l := code.Terms(p, i)
		x, ok := code.Eval(l, []int64{1, 2, 3, 4, 5, 6})
		return fmt.Sprint(l, x, ok, code.Right(rows[i], twoTables, procVars), code.Same(rows[i], rows[59-i]))
	}
	var first []string
	for i := range rows {
		first = append(first, ask(i))
	}
	done := make(chan string)
	for range 4 {
		go func() {
			for i := len(rows) - 1; i >= 0; i-- {
				if ask(i) != first[i] {
					done <- first[i]
					return
				}
			}
			done <- ""
		}()
	}
	for range 4 {
		if x := <-done; x != "" {
			t.Errorf("another answer than %s", x)
		}
	}
}
