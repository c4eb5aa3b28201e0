package print_test

import (
	"bytes"
	"errors"
	"fmt"
	"math"
	"math/rand"
	"reflect"
	"runtime/debug"
	"slices"
	"strings"
	"testing"
	"unsafe"

	"interlock/api"
	"interlock/diag"
	"interlock/lex"
	"interlock/parse"
	"interlock/print"
	"interlock/tree"
)

// short cuts what a failed test shows.
func short(x any) string {
	s := fmt.Sprintf("%v", x)
	if len(s) > 800 {
		return s[:400] + " .. " + s[len(s)-400:]
	}
	return s
}

func mustParse(t *testing.T, src string) tree.Tree {
	t.Helper()
	x, err := parse.Parse([]byte(src))
	if err != nil {
		t.Fatalf("Parse(%s) = %v", short(src), err)
	}
	return x
}

func mustPrint(t *testing.T, x tree.Tree) string {
	t.Helper()
	b, err := print.Print(x)
	if err != nil {
		t.Fatalf("Print(%s) = %v", short(x), err)
	}
	return string(b)
}

// wantLines asks for just these lines.
func wantLines(t *testing.T, x tree.Tree, want string) {
	t.Helper()
	if got := mustPrint(t, x); got != want {
		t.Errorf("Print = %q, want %q", short(got), short(want))
	}
}

// wantPrintError asks for that number, no place, and no bytes beside it.
func wantPrintError(t *testing.T, x tree.Tree, e api.Errno) {
	t.Helper()
	b, err := print.Print(x)
	if !errors.Is(err, e) || diag.Code(err) != e || len(b) != 0 {
		t.Fatalf("Print(%s) = %d bytes, %v, want %v", short(x), len(b), err, e)
	}
	if at, line, col, ok := diag.Place(err); ok {
		t.Errorf("Print(%s): %v is at %d, line %d, column %d", short(x), err, at, line, col)
	}
}

func wantExpr(t *testing.T, x tree.Tree, i int, want string) {
	t.Helper()
	if got, err := print.Expr(x, i); err != nil || got != want {
		t.Errorf("Expr at %d = %q, %v, want %q", i, short(got), err, short(want))
	}
}

// wantNoExpr asks for ErrArg, no place, and no text beside it.
func wantNoExpr(t *testing.T, x tree.Tree, i int) {
	t.Helper()
	got, err := print.Expr(x, i)
	if !errors.Is(err, api.ErrArg) || diag.Code(err) != api.ErrArg || got != "" {
		t.Fatalf("Expr(%s, %d) = %q, %v", short(x), i, got, err)
	}
	if _, _, _, ok := diag.Place(err); ok {
		t.Errorf("Expr(%s, %d): %v is at a place", short(x), i, err)
	}
}

// inEmit is a whole whose node 5 is that expression, inProc one with these statements.
func inEmit(expr sketch) tree.Tree     { return inProc(bare(tree.Emit, expr)) }
func inProc(stmts ...sketch) tree.Tree { return flat(whole(proc(stmts...))) }
func emitted(expr string) string       { return "proc p() {\n\temit " + expr + ";\n}\n" }
func plus(left, right sketch) sketch   { return bare(tree.Plus, left, right) }
func minus(left, right sketch) sketch  { return bare(tree.Minus, left, right) }
func times(left, right sketch) sketch  { return bare(tree.Times, left, right) }
func neg(part sketch) sketch           { return bare(tree.Neg, part) }
func lines(all ...string) string       { return strings.Join(all, "\n") + "\n" }
func longName(n int) string            { return strings.Repeat("n", n) }
func nodes(all ...tree.Node) tree.Tree { return tree.Tree{Nodes: all} }

// everyForm has each form of the grammar at least once.
const everyForm = "table t(c, d); table u(e); proc p(a, b) single { read x = t[a].c; read y = t[1].d for update; " +
	"set t[x].c = x + y * -2; put t[1](2, a - (b - 1)); delete u[(a)]; scan z = u.e; lock t shared; lock u all; " +
	"release t; release t[-(a * b)]; if a < b { chop; } else { emit z; } if a == 1 { } for i = 1 to 3 { let x = i; } rollback; } proc q() { }"

// The chapter's examples.
func TestExamples(t *testing.T) { // P6.1
	wantLines(t, mustParse(t, "proc p(){emit((1)-(2-3))*-(a+b);}"), "proc p() {\n\temit (1 - (2 - 3)) * -(a + b);\n}\n")
	wantLines(t, mustParse(t, "table t(c,d);"), "table t(c, d);\n")
}

// The program without parts has no lines.
func TestNothingInIt(t *testing.T) { // P6.1
	wantLines(t, flat(whole()), "")
	wantLines(t, nodes(tree.Node{Kind: tree.Program, At: 7, Kids: []int{}}), "")
	wantLines(t, mustParse(t, " # nothing\n"), "")
}

func TestTablesAndProcedures(t *testing.T) { // P6.1
	names := func(all ...sketch) sketch { return bare(tree.Names, all...) }
	for _, c := range []struct {
		part sketch
		want string
	}{
		{table("t", word("c")), "table t(c);\n"},
		{table("t_1", word("c"), word("d2"), word("c")), "table t_1(c, d2, c);\n"},
		{sk(tree.Proc, "p", 0, names(), block()), "proc p() {\n}\n"},
		{sk(tree.Proc, "p", 1, names(), block()), "proc p() single {\n}\n"},
		{sk(tree.Proc, "p", 0, names(word("a")), block()), "proc p(a) {\n}\n"},
		{sk(tree.Proc, "p", 1, names(word("a"), word("b"), word("c")), block()), "proc p(a, b, c) single {\n}\n"},
		{sk(tree.Proc, "proc", 0, names(word("single")), block(bare(tree.Chop))), "proc proc(single) {\n\tchop;\n}\n"},
		{proc(bare(tree.Chop), bare(tree.Rollback), bare(tree.Chop)), "proc p() {\n\tchop;\n\trollback;\n\tchop;\n}\n"},
	} {
		wantLines(t, flat(whole(c.part)), c.want)
	}
	wantLines(t, flat(whole(proc(), table("t", word("c")), proc(bare(tree.Chop)), table("u", word("d")))),
		lines("proc p() {", "}", "table t(c);", "proc p() {", "\tchop;", "}", "table u(d);"))
}

func TestStatements(t *testing.T) { // P6.1
	at := row("t", num(1))
	sum := plus(varOf("a"), num(2))
	for _, c := range []struct {
		stmt sketch
		want string
	}{
		{sk(tree.Read, "x", 0, at, word("c")), "read x = t[1].c;"},
		{sk(tree.Read, "x", 1, at, word("c")), "read x = t[1].c for update;"},
		{sk(tree.Read, "x", 0, row("t", sum), word("c")), "read x = t[a + 2].c;"},
		{bare(tree.Set, at, word("c"), num(2)), "set t[1].c = 2;"},
		{bare(tree.Set, row("t", sum), word("c"), sum), "set t[a + 2].c = a + 2;"},
		{bare(tree.Put, at, num(2)), "put t[1](2);"},
		{bare(tree.Put, at, num(2), varOf("a")), "put t[1](2, a);"},
		{bare(tree.Put, row("t", sum), sum, sum, times(sum, sum), neg(sum)), "put t[a + 2](a + 2, a + 2, (a + 2) * (a + 2), -(a + 2));"},
		{bare(tree.Delete, at), "delete t[1];"},
		{bare(tree.Delete, row("t", sum)), "delete t[a + 2];"},
		{sk(tree.Scan, "x", 0, word("t"), word("c")), "scan x = t.c;"},
		{sk(tree.Lock, "", 0, word("t")), "lock t shared;"},
		{sk(tree.Lock, "", 1, word("t")), "lock t all;"},
		{bare(tree.Release, word("t")), "release t;"},
		{bare(tree.Release, at), "release t[1];"},
		{bare(tree.Release, row("t", sum)), "release t[a + 2];"},
		{sk(tree.Let, "x", 0, num(2147483647)), "let x = 2147483647;"},
		{sk(tree.Let, "x", 0, sum), "let x = a + 2;"},
		{bare(tree.Emit, num(0)), "emit 0;"},
		{bare(tree.Emit, sum), "emit a + 2;"},
		{bare(tree.Rollback), "rollback;"},
		{bare(tree.Chop), "chop;"},
	} {
		wantLines(t, inProc(c.stmt), "proc p() {\n\t"+c.want+"\n}\n")
		wantLines(t, inProc(bare(tree.Chop), c.stmt, c.stmt), "proc p() {\n\tchop;\n\t"+c.want+"\n\t"+c.want+"\n}\n")
	}
}

// Blocks within blocks: each a tab more.
func TestBlocks(t *testing.T) { // P6.1
	chop, rollback := bare(tree.Chop), bare(tree.Rollback)
	one, two := num(1), num(2)
	sum := minus(varOf("a"), num(2))
	for _, c := range []struct {
		stmt sketch
		want string
	}{
		{sk(tree.If, "", 0, one, two, block()), "if 1 < 2 {|}"},
		{sk(tree.If, "", 1, one, two, block()), "if 1 == 2 {|}"},
		{sk(tree.If, "", 0, sum, sum, block(chop)), "if a - 2 < a - 2 {|\tchop;|}"},
		{sk(tree.If, "", 1, sum, neg(sum), block(chop, rollback)), "if a - 2 == -(a - 2) {|\tchop;|\trollback;|}"},
		{sk(tree.If, "", 0, one, two, block(), block()), "if 1 < 2 {|} else {|}"},
		{sk(tree.If, "", 1, one, two, block(chop), block()), "if 1 == 2 {|\tchop;|} else {|}"},
		{sk(tree.If, "", 0, one, two, block(), block(chop)), "if 1 < 2 {|} else {|\tchop;|}"},
		{sk(tree.If, "", 1, one, two, block(chop), block(rollback, chop)), "if 1 == 2 {|\tchop;|} else {|\trollback;|\tchop;|}"},
		{sk(tree.For, "i", 0, one, two, block()), "for i = 1 to 2 {|}"},
		{sk(tree.For, "i", 0, two, num(0), block(chop, chop)), "for i = 2 to 0 {|\tchop;|\tchop;|}"},
		{
			sk(tree.For, "i", 0, one, two, block(chop, sk(tree.If, "", 0, one, two, block(sk(tree.For, "j", 0, one, two, block(rollback)), chop), block(sk(tree.If, "", 1, one, two, block()))), chop)),
			"for i = 1 to 2 {|\tchop;|\tif 1 < 2 {|\t\tfor j = 1 to 2 {|\t\t\trollback;|\t\t}|\t\tchop;|\t} else {|\t\tif 1 == 2 {|\t\t}|\t}|\tchop;|}",
		},
		{sk(tree.If, "", 0, one, two, block(sk(tree.If, "", 0, one, two, block())), block()), "if 1 < 2 {|\tif 1 < 2 {|\t}|} else {|}"},
		{sk(tree.If, "", 0, one, two, block(sk(tree.If, "", 0, one, two, block(), block()))), "if 1 < 2 {|\tif 1 < 2 {|\t} else {|\t}|}"},
	} {
		wantLines(t, inProc(c.stmt), "proc p() {\n\t"+strings.ReplaceAll(c.want, "|", "\n\t")+"\n}\n")
	}
}

// Which part has to stand in brackets, and which must not: each kind within each other one, at each place.
func TestBrackets(t *testing.T) { // P6.1, P6.2
	leaf, name := num(7), varOf("a")
	sum, difference, product, sign := plus(num(1), num(2)), minus(num(1), num(2)), times(num(1), num(2)), neg(num(1))
	for _, c := range []struct {
		expr sketch
		want string
	}{
		{neg(leaf), "-7"}, {neg(name), "-a"}, {neg(sum), "-(1 + 2)"}, {neg(difference), "-(1 - 2)"}, {neg(product), "-(1 * 2)"}, {neg(sign), "--1"},
		{plus(leaf, name), "7 + a"}, {plus(sum, name), "1 + 2 + a"}, {plus(difference, name), "1 - 2 + a"}, {plus(product, name), "1 * 2 + a"}, {plus(sign, name), "-1 + a"},
		{plus(name, leaf), "a + 7"}, {plus(name, sum), "a + (1 + 2)"}, {plus(name, difference), "a + (1 - 2)"}, {plus(name, product), "a + 1 * 2"}, {plus(name, sign), "a + -1"},
		{minus(leaf, name), "7 - a"}, {minus(sum, name), "1 + 2 - a"}, {minus(difference, name), "1 - 2 - a"}, {minus(product, name), "1 * 2 - a"}, {minus(sign, name), "-1 - a"},
		{minus(name, leaf), "a - 7"}, {minus(name, sum), "a - (1 + 2)"}, {minus(name, difference), "a - (1 - 2)"}, {minus(name, product), "a - 1 * 2"}, {minus(name, sign), "a - -1"},
		{times(leaf, name), "7 * a"}, {times(sum, name), "(1 + 2) * a"}, {times(difference, name), "(1 - 2) * a"}, {times(product, name), "1 * 2 * a"}, {times(sign, name), "-1 * a"},
		{times(name, leaf), "a * 7"}, {times(name, sum), "a * (1 + 2)"}, {times(name, difference), "a * (1 - 2)"}, {times(name, product), "a * (1 * 2)"}, {times(name, sign), "a * -1"},
		{times(sum, difference), "(1 + 2) * (1 - 2)"}, {plus(sum, sum), "1 + 2 + (1 + 2)"}, {minus(difference, difference), "1 - 2 - (1 - 2)"}, {times(product, product), "1 * 2 * (1 * 2)"}, {minus(sign, sign), "-1 - -1"},
		{neg(neg(neg(name))), "---a"}, {neg(neg(sum)), "--(1 + 2)"}, {neg(minus(neg(name), neg(name))), "-(-a - -a)"}, {neg(times(neg(name), neg(sum))), "-(-a * -(1 + 2))"},
		{plus(times(sum, name), times(name, times(name, sum))), "(1 + 2) * a + a * (a * (1 + 2))"}, {minus(name, minus(name, minus(name, name))), "a - (a - (a - a))"}, {minus(minus(minus(name, name), name), name), "a - a - a - a"},
		{times(neg(sum), neg(product)), "-(1 + 2) * -(1 * 2)"}, {times(name, neg(times(name, name))), "a * -(a * a)"}, {plus(name, times(product, sum)), "a + 1 * 2 * (1 + 2)"}, {plus(name, plus(times(name, name), name)), "a + (a * a + a)"},
	} {
		x := inEmit(c.expr)
		wantLines(t, x, emitted(c.want))
		wantExpr(t, x, 5, c.want)
		// Where it is no part of an expression, it stands in no brackets of its own.
		r := row("t", c.expr)
		x = inProc(bare(tree.Delete, r), bare(tree.Release, r), sk(tree.Read, "x", 0, r, word("c")), bare(tree.Set, r, word("c"), c.expr), bare(tree.Put, r, c.expr, c.expr),
			sk(tree.If, "", 0, c.expr, c.expr, block()), sk(tree.If, "", 1, c.expr, c.expr, block()), sk(tree.Let, "x", 0, c.expr))
		wantLines(t, x, strings.ReplaceAll(lines("proc p() {", "\tdelete t[E];", "\trelease t[E];", "\tread x = t[E].c;", "\tset t[E].c = E;", "\tput t[E](E, E);",
			"\tif E < E {", "\t}", "\tif E == E {", "\t}", "\tlet x = E;", "}"), "E", c.want))
		wantExpr(t, x, 5, "t["+c.want+"]")
	}
}

// Each bracket that is written is needed: without it there is another tree, or none; and with all of them there is the same.
func TestNoBracketTooMany(t *testing.T) { // P6.1, P6.4
	r := rand.New(rand.NewSource(61))
	p := pencil{r, []string{"a", "b"}}
	brackets := 0
	for range 1000 {
		x := inEmit(p.kid(tree.Emit, "expr", r.Intn(8)))
		s := mustPrint(t, x)
		if !tree.Same(x, mustParse(t, s)) {
			t.Fatalf("%s is another tree", s)
		}
		body := strings.Index(s, "emit")
		for open := body; open < len(s); open++ {
			if s[open] != '(' {
				continue
			}
			brackets++
			closed := closing(s, open)
			other, err := parse.Parse([]byte(s[:open] + " " + s[open+1:closed] + " " + s[closed+1:]))
			if err == nil && tree.Same(x, other) {
				t.Fatalf("%s: the bracket at %d need not be", s, open)
			}
		}
	}
	if brackets < 1000 {
		t.Errorf("%d brackets: the test is not worth much", brackets)
	}
}

// closing is where the bracket that opens there is closed.
func closing(s string, open int) int {
	deep := 0
	for i := open; ; i++ {
		switch s[i] {
		case '(':
			deep++
		case ')':
			deep--
		}
		if deep == 0 {
			return i
		}
	}
}

// P6.2: of each node of a tree, and of numbers that it does not have.
func TestWhichNodesAreTold(t *testing.T) {
	for _, x := range []tree.Tree{mustParse(t, everyForm), flat(whole()), inEmit(num(1))} {
		for i := range x.Nodes {
			wantNode(t, x, i)
		}
		for _, i := range []int{-1, -2, -5, -len(x.Nodes), len(x.Nodes), len(x.Nodes) + 1, math.MinInt, math.MaxInt, math.MinInt32, 1 << 32} {
			wantNoExpr(t, x, i)
		}
	}
	x := inEmit(plus(num(1), times(varOf("b"), neg(num(2147483647)))))
	for i, want := range []string{5: "1 + b * -2147483647", 6: "1", 7: "b * -2147483647", 8: "b", 9: "-2147483647", 10: "2147483647"} {
		if want == "" {
			wantNoExpr(t, x, i)
		} else {
			wantExpr(t, x, i, want)
		}
	}
}

// A part's own text has no brackets, wherever it stands.
func TestPartsByThemselves(t *testing.T) { // P6.2
	x := inEmit(times(plus(num(1), num(2)), neg(times(num(3), num(4)))))
	wantExpr(t, x, 5, "(1 + 2) * -(3 * 4)")
	wantExpr(t, x, 6, "1 + 2")
	wantExpr(t, x, 9, "-(3 * 4)")
	wantExpr(t, x, 10, "3 * 4")
	x = inProc(bare(tree.Put, row("t", minus(num(1), minus(num(2), num(3)))), num(4), num(5)))
	wantExpr(t, x, 5, "t[1 - (2 - 3)]")
	wantExpr(t, x, 6, "1 - (2 - 3)")
	wantExpr(t, x, 8, "2 - 3")
	wantExpr(t, x, 11, "4")
	x = flat(whole(proc(sk(tree.For, "i", 0, num(1), num(20), block()))))
	wantExpr(t, x, 5, "1")
	wantExpr(t, x, 6, "20")
}

// Trees that are not right, by hand.
func TestTreesThatAreNotRight(t *testing.T) { // P6.1, P6.2
	program := tree.Node{Kind: tree.Program, Kids: []int{1}}
	one := tree.Node{Kind: tree.Number, N: 1}
	for _, x := range []tree.Tree{
		{}, nodes(), nodes(tree.Node{}), nodes(one), nodes(tree.Node{Kind: tree.Row, Text: "t", Kids: []int{1}}, one), nodes(tree.Node{Kind: tree.Block}), nodes(tree.Node{Kind: 27}), nodes(tree.Node{Kind: 255}),
		nodes(tree.Node{Kind: tree.Program, Text: "p"}), nodes(tree.Node{Kind: tree.Program, N: 1}), nodes(tree.Node{Kind: tree.Program, Kids: []int{0}}), nodes(program), nodes(tree.Node{Kind: tree.Program, Kids: []int{-1}}),
		nodes(tree.Node{Kind: tree.Program}, one), nodes(program, one), nodes(program, tree.Node{Kind: tree.Block}), nodes(program, tree.Node{Kind: tree.Program}), nodes(program, tree.Node{Kind: tree.Table, Text: "t"}),
		flat(whole(table("T", word("c")))), flat(whole(table("", word("c")))), flat(whole(table("t", word("c d")))), flat(whole(table("t", num(1)))), flat(whole(sk(tree.Table, "t", 1, word("c")))),
		flat(whole(sk(tree.Proc, "p", 2, bare(tree.Names), block()))), flat(whole(sk(tree.Proc, "p", -1, bare(tree.Names), block()))), flat(whole(sk(tree.Proc, "p", 0, block(), bare(tree.Names)))), flat(whole(sk(tree.Proc, "p", 0, block()))), flat(whole(sk(tree.Proc, "p", 0, bare(tree.Names)))),
		inProc(block()), inProc(num(1)), inProc(row("t", num(1))), inProc(table("t", word("c"))),
		inProc(sk(tree.Read, "x", 2, row("t", num(1)), word("c"))), inProc(sk(tree.Read, "", 0, row("t", num(1)), word("c"))), inProc(sk(tree.Read, "x", 0, word("c"), row("t", num(1)))), inProc(sk(tree.Read, "x", 0, row("t", num(1)))),
		inProc(bare(tree.Set, row("t", num(1)), word("c"))), inProc(bare(tree.Set, row("t", num(1)), num(1), num(1))), inProc(bare(tree.Put, row("t", num(1)))), inProc(bare(tree.Put, num(1), num(1))), inProc(bare(tree.Put, row("t", num(1)), word("c"))),
		inProc(bare(tree.Delete)), inProc(bare(tree.Delete, word("t"))), inProc(sk(tree.Scan, "x", 0, word("t"))), inProc(sk(tree.Lock, "", 2, word("t"))), inProc(bare(tree.Lock, row("t", num(1)))), inProc(bare(tree.Release)), inProc(bare(tree.Release, num(1))), inProc(bare(tree.Release, word("t"), word("t"))),
		inProc(sk(tree.If, "", 2, num(1), num(2), block())), inProc(bare(tree.If, num(1), num(2))), inProc(bare(tree.If, num(1), block(), block())), inProc(bare(tree.If, num(1), num(2), block(), block(), block())), inProc(bare(tree.If, num(1), num(2), bare(tree.Chop))),
		inProc(sk(tree.For, "i", 0, num(1), varOf("a"), block())), inProc(sk(tree.For, "i", 0, neg(num(1)), num(1), block())), inProc(sk(tree.For, "i", 0, num(1), num(1))), inProc(bare(tree.For, num(1), num(1), block())),
		inProc(bare(tree.Let, num(1))), inProc(sk(tree.Let, "x", 0)), inProc(bare(tree.Emit)), inProc(bare(tree.Emit, word("a"))), inProc(bare(tree.Emit, row("t", num(1)))), inProc(bare(tree.Emit, num(1), num(2))), inProc(bare(tree.Rollback, num(1))), inProc(sk(tree.Chop, "x", 0)),
		inEmit(num(-1)), inEmit(num(1 << 31)), inEmit(num(math.MinInt64)), inEmit(num(math.MaxInt64)), inEmit(sk(tree.Number, "1", 1)), inEmit(varOf("")), inEmit(varOf("A")), inEmit(varOf("1a")), inEmit(varOf("a ")), inEmit(varOf("a\n")), inEmit(varOf("ä")), inEmit(sk(tree.Var, "a", 1)),
		inEmit(bare(tree.Plus)), inEmit(bare(tree.Plus, num(1))), inEmit(bare(tree.Minus, num(1), num(2), num(3))), inEmit(bare(tree.Times, num(1), word("a"))), inEmit(bare(tree.Neg)), inEmit(bare(tree.Neg, num(1), num(2))), inEmit(sk(tree.Neg, "", 1, num(1))), inEmit(sk(tree.Plus, "a", 0, num(1), num(2))),
		inProc(bare(tree.Delete, bare(tree.Row, num(1)))), inProc(bare(tree.Delete, sk(tree.Row, "t", 0))), inProc(bare(tree.Delete, sk(tree.Row, "t", 1, num(1)))), inProc(bare(tree.Delete, row("t", row("t", num(1))))), inProc(bare(tree.Delete, row("t", word("a")))),
	} {
		wantPrintError(t, x, api.ErrArg)
		for i := -2; i <= len(x.Nodes)+1; i++ {
			wantNoExpr(t, x, i)
		}
	}
}

// wantNode holds what Expr answers of any tree's node against the second reading.
func wantNode(t *testing.T, x tree.Tree, i int) {
	t.Helper()
	if kind := x.Nodes[i].Kind; tree.Right(x) && (kind == tree.Row || isExpr(kind)) {
		wantExpr(t, x, i, textOf(x, i))
	} else {
		wantNoExpr(t, x, i)
	}
}

// wantAll holds what is answered of any tree against the second reading; Expr's answers of no more than some fifty nodes.
func wantAll(t *testing.T, x tree.Tree) {
	t.Helper()
	if !tree.Right(x) {
		wantPrintError(t, x, api.ErrArg)
	} else if want := linesOf(x); len(want) > 65536 {
		wantPrintError(t, x, api.ErrLimit)
	} else {
		wantLines(t, x, want)
	}
	for i := 0; i < len(x.Nodes); i += 1 + len(x.Nodes)/25 {
		wantNode(t, x, i)
	}
	wantNoExpr(t, x, -1)
	wantNoExpr(t, x, len(x.Nodes))
}

// Each node spoilt in each way: by its kind, its text, its number, its kids.
func TestSpoiltTrees(t *testing.T) { // P6.1, P6.2
	t.Parallel()
	base := mustParse(t, everyForm)
	wantAll(t, base)
	right, wrong := 0, 0
	try := func(i int, n tree.Node) {
		x := tree.Tree{Nodes: slices.Clone(base.Nodes)}
		x.Nodes[i] = n
		if tree.Right(x) {
			right++
		} else {
			wrong++
		}
		wantAll(t, x)
		wantNode(t, x, i)
	}
	for i, n := range base.Nodes {
		for _, kind := range []uint8{0, tree.Program, tree.Table, tree.Names, tree.Word, tree.Block, tree.Set, tree.Delete, tree.Release, tree.Let, tree.Emit, tree.Chop, tree.Row, tree.Number, tree.Var, tree.Plus, tree.Times, tree.Neg, 27, 255} {
			spoilt := n
			spoilt.Kind = kind
			try(i, spoilt)
		}
		for _, text := range []string{"", "a", "A", "a b", "1", "a;", "if"} {
			spoilt := n
			spoilt.Text = text
			try(i, spoilt)
		}
		for _, number := range []int64{-1, 0, 1, 2, 2147483647, 2147483648, math.MinInt64, math.MaxInt64} {
			spoilt := n
			spoilt.N = number
			try(i, spoilt)
		}
		for _, kids := range [][]int{nil, {}, {i}, {i + 1}, {i + 1, i + 2}, {i + 2, i + 1}, {-1}, {len(base.Nodes)}, {math.MaxInt}, append(slices.Clone(n.Kids), i+1)} {
			spoilt := n
			spoilt.Kids = kids
			try(i, spoilt)
		}
	}
	if right < 100 || wrong < 1000 {
		t.Errorf("%d right, %d wrong: the test is not worth much", right, wrong)
	}
}

// grown is a tree whose lines have so many bytes, by a longer name at the place of $ in a source.
func grown(t *testing.T, src string, size int) tree.Tree {
	t.Helper()
	x := mustParse(t, strings.ReplaceAll(src, "$", "n"))
	more := size - len(linesOf(x)) + 1
	if more < 1 || strings.Count(src, "$") != 1 {
		t.Fatalf("%s can't be made of %d bytes", short(src), size)
	}
	for i, n := range x.Nodes {
		if n.Text == "n" {
			x.Nodes[i].Text = longName(more)
		}
	}
	return x
}

// Lines of just as many bytes as may be, and of one more, wherever they stand.
func TestAsLongAsMayBe(t *testing.T) { // P6.1
	t.Parallel()
	for _, src := range []string{
		"table $(c);", "table t($);", "table t(c, $, d);", "proc $() { }", "proc p($) single { }", "table t(c); proc $() { } table u(d);",
		"proc p() { let $ = 1; }", "proc p() { emit $; }", "proc p() { emit 1 - (2 - $) * 3; }", "proc p() { emit a; read $ = t[1].c for update; }", "proc p() { put t[1](1, $, 2); }", "proc p() { delete $[1]; }", "proc p() { release $; chop; }", "proc p() { scan x = $.c; }", "proc p() { lock $ all; }", "proc p() { set t[1].$ = 1; }",
		"proc p() { if $ < 1 { chop; } else { } }", "proc p() { if 1 < 2 { } else { emit $; } }", "proc p() { if 1 < 2 { emit $; } else { chop; } emit 1; }", "proc p() { for $ = 1 to 2 { chop; } }", "proc p() { for i = 1 to 2 { for j = 1 to 2 { emit $; } } }",
		"proc p() { emit 1" + strings.Repeat(" - 1", 3000) + " * $; }",
		"proc p() { " + strings.Repeat("chop; ", 3000) + "emit $; }",
		"proc p() { " + strings.Repeat("if 1 < 2 { ", 60) + strings.Repeat("chop; ", 800) + "emit $;" + strings.Repeat(" }", 60) + " }",
		"proc p() { " + strings.Repeat("if 1 < 2 { } else { ", 60) + "emit $;" + strings.Repeat(" }", 60) + " }",
		strings.Repeat("table t(c); ", 1000) + "table t($);",
		"table t($" + strings.Repeat(", c", 5000) + ");",
	} {
		for size := 65535; size <= 65538; size++ {
			x := grown(t, src, size)
			if size <= 65536 {
				wantLines(t, x, linesOf(x))
			} else {
				wantPrintError(t, x, api.ErrLimit)
			}
		}
		wantPrintError(t, grown(t, src, 200000), api.ErrLimit)
	}
}

// With nothing that can grow by one: as many as there is room for, and one more.
func TestAsManyAsMayBe(t *testing.T) { // P6.1
	t.Parallel()
	chops := func(n int) tree.Tree { return inProc(slices.Repeat([]sketch{bare(tree.Chop)}, n)...) }
	most := (65536 - len("proc p() {\n}\n")) / len("\tchop;\n")
	wantLines(t, chops(most), linesOf(chops(most)))
	wantPrintError(t, chops(most+1), api.ErrLimit)
	columns := func(n int) tree.Tree { return flat(whole(table("t", slices.Repeat([]sketch{word("c")}, n)...))) }
	most = (65536 - len("table t();\n") + 2) / len("c, ")
	wantLines(t, columns(most), linesOf(columns(most)))
	wantPrintError(t, columns(most+1), api.ErrLimit)
	tables := func(n int) tree.Tree { return flat(whole(slices.Repeat([]sketch{table("t", word("c"))}, n)...)) }
	most = 65536 / len("table t(c);\n")
	wantLines(t, tables(most), linesOf(tables(most)))
	wantPrintError(t, tables(most+1), api.ErrLimit)
	// Blocks within blocks, whose tabs count, too.
	ifs := func(n int) tree.Tree {
		s := bare(tree.If, num(1), num(2), block())
		for range n - 1 {
			s = bare(tree.If, num(1), num(2), block(s))
		}
		return inProc(s)
	}
	most = 200
	if size := len(linesOf(ifs(most))); size > 65536 {
		t.Fatalf("%d blocks have %d bytes already", most, size)
	}
	for len(linesOf(ifs(most+1))) <= 65536 {
		most++
	}
	wantLines(t, ifs(most), linesOf(ifs(most)))
	wantPrintError(t, ifs(most+1), api.ErrLimit)
}

// ErrArg comes first, of a tree that is too long and not right.
func TestWhichErrorComesFirst(t *testing.T) { // P6.1
	x := flat(whole(table(longName(70000), word("c")), sk(tree.Proc, "p", 2, bare(tree.Names), block())))
	wantPrintError(t, x, api.ErrArg)
	x.Nodes[3].N = 1
	wantPrintError(t, x, api.ErrLimit)
}

// An expression's text has no limit.
func TestLongExpressions(t *testing.T) { // P6.2
	name := longName(70000)
	x := inEmit(minus(varOf(name), minus(varOf(name), row("t", num(1)).kids[0])))
	wantPrintError(t, x, api.ErrLimit)
	wantExpr(t, x, 5, name+" - ("+name+" - 1)")
	x = inProc(bare(tree.Delete, row(name, varOf(name))))
	wantExpr(t, x, 5, name+"["+name+"]")
}

// tower is a tree with an expression of so many signs or sums within one another.
func tower(high int, add func(all []tree.Node) []tree.Node, behind func(all []tree.Node) []tree.Node) tree.Tree {
	all := []tree.Node{{Kind: tree.Program, Kids: []int{1}}, {Kind: tree.Proc, Text: "p", Kids: []int{2, 3}}, {Kind: tree.Names}, {Kind: tree.Block, Kids: []int{4}}, {Kind: tree.Emit, Kids: []int{5}}}
	for range high {
		all = add(all)
	}
	all = append(all, tree.Node{Kind: tree.Number, N: 1})
	for range high {
		all = behind(all)
	}
	return tree.Tree{Nodes: all}
}

// lowStack lets a function that calls itself too deep break the test, at trees that are no greater than they have to be.
func lowStack(t *testing.T) {
	before := debug.SetMaxStack(4 << 20)
	t.Cleanup(func() { debug.SetMaxStack(before) })
}

// No tree is too deep to be told, or to be refused.
func TestTreesOfAnyDepth(t *testing.T) { // P6.1, P6.2
	lowStack(t)
	const high = 200000
	next := func(all []tree.Node, kind uint8, more ...tree.Node) []tree.Node {
		kids := []int{len(all) + 1}
		if len(more) > 0 {
			kids = append(kids, len(all)+2)
		}
		return append(append(all, tree.Node{Kind: kind, Kids: kids}), more...)
	}
	leaf := tree.Node{Kind: tree.Var, Text: "a"}
	same := func(all []tree.Node) []tree.Node { return all }
	signs := tower(high, func(all []tree.Node) []tree.Node { return next(all, tree.Neg) }, same)
	wantExpr(t, signs, 5, strings.Repeat("-", high)+"1")
	wantPrintError(t, signs, api.ErrLimit)
	right := tower(high, func(all []tree.Node) []tree.Node { return next(all, tree.Minus, leaf) }, same)
	wantExpr(t, right, 5, strings.Repeat("a - (", high-1)+"a - 1"+strings.Repeat(")", high-1))
	wantPrintError(t, right, api.ErrLimit)
	left := tower(high, func(all []tree.Node) []tree.Node { return next(all, tree.Times) }, func(all []tree.Node) []tree.Node { return append(all, leaf) })
	for i := range high {
		left.Nodes[5+i].Kids = append(left.Nodes[5+i].Kids, len(left.Nodes)-1-i)
	}
	wantExpr(t, left, 5, "1"+strings.Repeat(" * a", high))
	wantPrintError(t, left, api.ErrLimit)
}

// Blocks within blocks that would have more tabs than there is memory are refused all the same.
func TestBlocksOfAnyDepth(t *testing.T) { // P6.1
	lowStack(t)
	const high = 200000
	all := []tree.Node{{Kind: tree.Program, Kids: []int{1}}, {Kind: tree.Proc, Text: "p", Kids: []int{2, 3}}, {Kind: tree.Names}}
	for i := range high {
		at := len(all)
		all = append(all, tree.Node{Kind: tree.Block, Kids: []int{at + 1}})
		if i%2 == 0 {
			all = append(all, tree.Node{Kind: tree.For, Text: "i", Kids: []int{at + 2, at + 3, at + 4}}, tree.Node{Kind: tree.Number}, tree.Node{Kind: tree.Number})
		} else {
			all = append(all, tree.Node{Kind: tree.If, Kids: []int{at + 2, at + 3, at + 4, at + 5}}, tree.Node{Kind: tree.Number}, tree.Node{Kind: tree.Number}, tree.Node{Kind: tree.Block})
		}
	}
	all = append(all, tree.Node{Kind: tree.Block})
	x := tree.Tree{Nodes: all}
	wantPrintError(t, x, api.ErrLimit)
	wantExpr(t, x, 5, "0")
}

var someNames = []string{"a", "b", "t", "x1", "z_", "read", "for", "update", "single", "else", "to", "all"}

// drawn gives trees of each depth that is at most MaxDeep, right as deep as may be among them, too.
func drawn(seed int64, count int, give func(r *rand.Rand, x tree.Tree, deep int)) {
	r := rand.New(rand.NewSource(seed))
	for i := range count {
		deep := []int{r.Intn(65), r.Intn(6), 64, 1 + i%64}[r.Intn(4)]
		give(r, pencil{r, someNames}.program(deep), deep)
	}
}

// What is printed is parsed as the same tree; and it is what the second reading says.
func TestPrintedAndParsed(t *testing.T) { // P6.1, P6.2, P6.4
	t.Parallel()
	kinds := map[uint8]int{}
	deepest, tooLong := 0, 0
	drawn(62, 1000, func(r *rand.Rand, x tree.Tree, deep int) {
		if !tree.Right(x) || tree.Deep(x) != deep {
			t.Fatalf("drawn as %d deep, is %d: %s", deep, tree.Deep(x), short(x))
		}
		wantAll(t, x)
		for _, n := range x.Nodes {
			kinds[n.Kind]++
		}
		b, err := print.Print(x)
		if err != nil {
			tooLong++
			return
		}
		if deep == 64 {
			deepest++
		}
		wantSame(t, x, string(b))
	})
	for kind := tree.Program; kind <= tree.Neg; kind++ {
		if kinds[kind] < 100 {
			t.Errorf("%s was drawn %d times: the test is not worth much", shapes[kind].name, kinds[kind])
		}
	}
	if deepest < 200 || tooLong > 100 {
		t.Errorf("%d as deep as may be, %d too long: the test is not worth much", deepest, tooLong)
	}
}

// wantSame asks that what was printed of a tree is parsed as the same, and printed as the same.
func wantSame(t *testing.T, x tree.Tree, printed string) {
	t.Helper()
	again := mustParse(t, printed)
	if !tree.Same(x, again) {
		t.Fatalf("parsed as another tree: %s", short(printed))
	}
	wantLines(t, again, printed)
}

// Right trees that are as deep as may be, by each means alone and mixed.
func TestAsDeepAsMayBe(t *testing.T) { // P6.4
	nest := func(n int, s sketch, around func(s sketch) sketch) sketch {
		for range n {
			s = around(s)
		}
		return s
	}
	a := varOf("a")
	inIf := func(s sketch) sketch { return bare(tree.If, a, num(1), block(s)) }
	inElse := func(s sketch) sketch { return sk(tree.If, "", 1, a, num(1), block(), block(s)) }
	inFor := func(s sketch) sketch { return sk(tree.For, "i", 0, num(1), num(2), block(s)) }
	onLeft := func(kind uint8) func(s sketch) sketch { return func(s sketch) sketch { return bare(kind, s, a) } }
	onRight := func(kind uint8) func(s sketch) sketch { return func(s sketch) sketch { return bare(kind, a, s) } }
	emit := func(s sketch) sketch { return bare(tree.Emit, s) }
	for i, x := range []tree.Tree{
		inProc(nest(62, bare(tree.If, a, a, block()), inIf)), inProc(nest(63, bare(tree.Chop), inElse)), inProc(nest(63, emit(a), inFor)),
		inProc(emit(nest(63, a, neg))), inProc(nest(62, bare(tree.Delete, row("t", a)), inIf)), inProc(bare(tree.Delete, row("t", nest(62, a, neg)))), inProc(nest(31, emit(nest(32, a, neg)), inElse)),
		inProc(emit(nest(63, a, onLeft(tree.Plus)))), inProc(emit(nest(63, a, onLeft(tree.Minus)))), inProc(emit(nest(63, a, onLeft(tree.Times)))),
		inProc(emit(nest(63, a, onRight(tree.Plus)))), inProc(emit(nest(63, a, onRight(tree.Minus)))), inProc(emit(nest(63, a, onRight(tree.Times)))),
		inProc(emit(nest(21, a, func(s sketch) sketch { return times(minus(a, neg(s)), a) }))), inProc(emit(nest(21, a, func(s sketch) sketch { return neg(times(a, plus(s, a))) }))), inProc(emit(nest(31, neg(a), func(s sketch) sketch { return neg(times(a, s)) }))),
		inProc(bare(tree.Put, row("t", nest(62, a, neg)), nest(63, a, neg), nest(63, a, onRight(tree.Times)))), inProc(bare(tree.If, nest(63, a, neg), nest(63, a, onRight(tree.Plus)), block())),
	} {
		if tree.Deep(x) != 64 {
			t.Fatalf("tree %d is %d deep", i, tree.Deep(x))
		}
		wantSame(t, x, mustPrint(t, x))
	}
}

// respaced writes a source's tokens with other blanks between them.
func respaced(t *testing.T, r *rand.Rand, src string) string {
	t.Helper()
	tokens, err := lex.Lex([]byte(src))
	if err != nil {
		t.Fatal(err)
	}
	var b strings.Builder
	for _, token := range tokens {
		b.WriteString([]string{" ", "\t", "\n\n", " \r\n", "#\n", "# } ; proc\n", " #a#b\n\t"}[r.Intn(7)])
		b.WriteString(token.Text)
	}
	return b.String()
}

// wantCanonical asks that a source is printed in one way: parsed and printed again it stays.
func wantCanonical(t *testing.T, src string) string {
	t.Helper()
	x := mustParse(t, src)
	want := linesOf(x)
	if len(want) > 65536 {
		wantPrintError(t, x, api.ErrLimit)
		return ""
	}
	wantLines(t, x, want)
	wantSame(t, x, want)
	return want
}

// Sources as people write them are printed as the same, once and again.
func TestSourcesPrintedTwice(t *testing.T) { // P6.4
	for _, src := range []string{
		"", " \n", "# no program", everyForm, "table t ( c ) ;", "proc p(){}proc q ( a,b )single\n{\n}",
		"proc p(){emit((((1))));emit(1+2)+3;emit 1+(2*3)-(-4);emit(a*b)*c;emit((-a));emit-(-(a));emit 007;}",
		"proc p(){emit " + strings.Repeat("(", 63) + "1" + strings.Repeat(")", 63) + ";}",
		"proc p(){emit 1" + strings.Repeat("-1", 5000) + ";}", "proc p(){emit 1" + strings.Repeat("*a", 5000) + ";}",
		"proc p(){emit " + strings.Repeat("-", 63) + "1;}", "proc p(){" + strings.Repeat("if 1<2{", 63) + strings.Repeat("}", 63) + "}",
		"proc p(){" + strings.Repeat("if 1<2{}else{", 62) + "delete t[a];" + strings.Repeat("}", 62) + "}",
	} {
		if wantCanonical(t, src) == "" && strings.Contains(src, "proc") {
			t.Errorf("%s has become too long", short(src))
		}
	}
	// One that is parsed and has become too long.
	x := mustParse(t, "proc p(){emit 1"+strings.Repeat("-1", 32000)+";}")
	wantPrintError(t, x, api.ErrLimit)
	wantExpr(t, x, 5, "1"+strings.Repeat(" - 1", 32000))
}

// Sources with other blanks, and brackets that need not be, are printed as the tree's one source.
func TestManySourcesPrintedTwice(t *testing.T) { // P6.4
	t.Parallel()
	printed := 0
	drawn(63, 600, func(r *rand.Rand, x tree.Tree, deep int) {
		lavish := reading{x.Nodes, func() int { return max(0, r.Intn(5)-2) }}
		src := respaced(t, r, strings.Join(lavish.lines(0), " "))
		if len(src) > 65536 {
			return
		}
		if y, err := parse.Parse([]byte(src)); diag.Code(err) == api.ErrDeep {
			return
		} else if err != nil || !tree.Same(x, y) {
			t.Fatalf("%s is parsed as another tree: %v", short(src), err)
		}
		if got := wantCanonical(t, src); got != "" {
			printed++
			if got != linesOf(x) {
				t.Fatalf("%s is not the tree's source", short(got))
			}
		}
	})
	if printed < 300 {
		t.Errorf("%d were printed: the test is not worth much", printed)
	}
}

// Places are not told: trees that are the same but for these are printed as the same.
func TestPlacesAreNotTold(t *testing.T) { // P6.1, P6.2
	x := mustParse(t, everyForm)
	want := mustPrint(t, x)
	for i := range x.Nodes {
		x.Nodes[i].At = []int{-1, 0, math.MinInt, math.MaxInt}[i%4]
	}
	wantLines(t, x, want)
	wantAll(t, x)
}

// some are trees of all sorts, right and wrong.
func some() []tree.Tree {
	all := []tree.Tree{{}, flat(whole()), inEmit(num(1)), inEmit(num(-1)), inEmit(varOf("A")), inProc(bare(tree.Emit)), flat(whole(table(longName(70000), word("c"))))}
	drawn(64, 50, func(r *rand.Rand, x tree.Tree, deep int) { all = append(all, x) })
	x, _ := parse.Parse([]byte(everyForm))
	return append(all, x)
}

// roomy is the same tree with room behind each list, filled with what would spoil it.
func roomy(x tree.Tree) tree.Tree {
	y := tree.Tree{Nodes: make([]tree.Node, 0, len(x.Nodes)+3)}
	for _, n := range x.Nodes {
		kids := make([]int, 0, len(n.Kids)+3)
		n.Kids = append(kids, n.Kids...)
		copy(n.Kids[len(n.Kids):cap(n.Kids)], []int{-7, 1, 0})
		n.Text = strings.Clone(n.Text)
		y.Nodes = append(y.Nodes, n)
	}
	copy(y.Nodes[len(y.Nodes):cap(y.Nodes)], []tree.Node{{Kind: tree.Chop, Text: "x"}, {Kind: tree.Neg, N: 7, Kids: []int{1}}, {Kind: 99}})
	return y
}

// allOf is a tree with what lies behind its lists.
func allOf(x tree.Tree) []tree.Node {
	all := slices.Clone(x.Nodes[:cap(x.Nodes)])
	for i, n := range all {
		all[i].Kids = slices.Clone(n.Kids[:cap(n.Kids)])
		all[i].Text = strings.Clone(n.Text)
	}
	return all
}

func TestTheTreeIsOnlyRead(t *testing.T) { // P6.3
	for _, x := range some() {
		y := roomy(x)
		before := allOf(y)
		b, err := print.Print(y)
		if !reflect.DeepEqual(allOf(y), before) {
			t.Fatalf("Print(%s) has written", short(x))
		}
		// What lies behind is not asked either.
		if c, other := print.Print(x); !bytes.Equal(b, c) || diag.Code(err) != diag.Code(other) {
			t.Fatalf("Print(%s) = %v, and %v", short(x), err, other)
		}
		for i := -1; i <= len(x.Nodes); i++ {
			print.Expr(y, i)
		}
		if !reflect.DeepEqual(allOf(y), before) {
			t.Fatalf("Expr(%s) has written", short(x))
		}
	}
}

// P6.3: what is answered is shared with nothing: not with the tree, nor with another answer.
func TestTheAnswerIsNewMemory(t *testing.T) {
	for _, x := range some() {
		b, err := print.Print(x)
		if err != nil {
			continue
		}
		want := bytes.Clone(b)
		spoilt := b[:cap(b)]
		for i := range spoilt {
			spoilt[i] = '!'
		}
		if other, _ := print.Print(x); !bytes.Equal(other, want) {
			t.Fatalf("Print(%s) has changed", short(x))
		}
		b, _ = print.Print(x)
		y := roomy(x)
		c, _ := print.Print(y)
		for i := range y.Nodes {
			clear(y.Nodes[i].Kids)
			y.Nodes[i] = tree.Node{}
		}
		if !bytes.Equal(b, want) || !bytes.Equal(c, want) {
			t.Fatalf("Print(%s) is kept with the tree", short(x))
		}
	}
}

// P6.3: the text of a name is not the tree's own.
func TestATextIsNewMemory(t *testing.T) {
	for _, s := range []sketch{varOf("name"), row("name", num(1)), plus(varOf("name"), varOf("name"))} {
		x := inEmit(s)
		if s.kind == tree.Row {
			x = inProc(bare(tree.Delete, s))
		}
		one, _ := print.Expr(x, 5)
		two, _ := print.Expr(x, 5)
		if unsafe.StringData(one) == unsafe.StringData(two) {
			t.Errorf("%s: two answers share memory", one)
		}
		for _, n := range x.Nodes {
			if n.Text != "" && unsafe.StringData(n.Text) == unsafe.StringData(one) {
				t.Errorf("%s is the tree's memory", one)
			}
		}
	}
}

// As every call: the answers hang on the tree alone, whoever asks beside it.
func TestTheSameAgain(t *testing.T) {
	ask := func(x tree.Tree) string {
		b, err := print.Print(x)
		told := fmt.Sprintf("%s %v", b, err)
		for i := range min(len(x.Nodes), 40) {
			s, err := print.Expr(x, i)
			told += fmt.Sprintf(" %s %v", s, err)
		}
		return told
	}
	all := some()
	var first []string
	for _, x := range all {
		first = append(first, ask(x))
	}
	done := make(chan string)
	for range 4 {
		go func() {
			for i := len(all) - 1; i >= 0; i-- {
				if ask(all[i]) != first[i] {
					done <- short(all[i])
					return
				}
			}
			done <- ""
		}()
	}
	for range 4 {
		if x := <-done; x != "" {
			t.Errorf("another answer of %s", x)
		}
	}
}
