package names_test

import (
	"fmt"
	"math/rand"
	"reflect"
	"runtime/debug"
	"slices"
	"strings"
	"testing"
	"unsafe"

	"interlock/api"
	"interlock/diag"
	"interlock/lex"
	"interlock/names"
	"interlock/parse"
	"interlock/print"
	"interlock/tree"
)

// short cuts what a failed test shows.
func short(x any) string {
	s := fmt.Sprintf("%v", x)
	if len(s) > 800 {
		return s[:400] + " .. " + s[len(s)-400:]
	}
	return s
}

func mustParse(t *testing.T, src string) tree.Tree {
	t.Helper()
	x, err := parse.Parse([]byte(src))
	if err != nil {
		t.Fatalf("Parse(%s) = %v", short(src), err)
	}
	return x
}

func mustResolve(t *testing.T, src string) names.Program {
	t.Helper()
	p, err := names.Resolve([]byte(src), mustParse(t, src))
	if err != nil {
		at, _, _, _ := diag.Place(err)
		t.Fatalf("Resolve(%s) = %v, at %s", short(src), err, short(src[at:]))
	}
	return p
}

// wantErrorAt asks for that number at that place, and a program without anything beside it.
func wantErrorAt(t *testing.T, src []byte, x tree.Tree, e api.Errno, at int) {
	t.Helper()
	p, err := names.Resolve(src, x)
	got, line, col, ok := diag.Place(err)
	if !reflect.DeepEqual(p, names.Program{}) {
		t.Errorf("Resolve(%s) = %v, and %v", short(string(src)), err, short(p))
	}
	want := diag.New(src, at, e)
	wantAt, wantLine, wantCol, _ := diag.Place(want)
	if diag.Code(err) != e || !ok || got != wantAt || line != wantLine || col != wantCol {
		t.Errorf("Resolve(%s) = %v (at %d), want %v (at %d)", short(string(src)), err, got, want, at)
	}
}

// wantError asks for that number where an @ stands in the source.
func wantError(t *testing.T, marked string, e api.Errno) {
	t.Helper()
	at := strings.Index(marked, "@")
	if at < 0 || strings.Count(marked, "@") != 1 {
		t.Fatalf("no place is marked in %s", short(marked))
	}
	src := marked[:at] + marked[at+1:]
	wantErrorAt(t, []byte(src), mustParse(t, src), e, at)
}

// wantNoTree asks for ErrArg, of no place, and a program without anything beside it.
func wantNoTree(t *testing.T, src []byte, x tree.Tree) {
	t.Helper()
	p, err := names.Resolve(src, x)
	if diag.Code(err) != api.ErrArg || !reflect.DeepEqual(p, names.Program{}) {
		t.Fatalf("Resolve(%s) = %v, %v", short(x), short(p), err)
	}
	if at, _, _, ok := diag.Place(err); ok {
		t.Errorf("Resolve(%s): %v is at %d", short(x), err, at)
	}
}

// told tells of all nodes that stand for something which text they have, and for what they stand.
func told(p names.Program) string {
	var all []string
	for i, n := range p.Tree.Nodes {
		if i < len(p.Of) && p.Of[i] != -1 {
			all = append(all, fmt.Sprintf("%s%d", n.Text, p.Of[i]))
		}
	}
	return strings.Join(all, " ")
}

// wantTold asks for what a source's nodes stand for, and for the variables of its first procedure.
func wantTold(t *testing.T, src, want string, vars ...string) {
	t.Helper()
	p := mustResolve(t, src)
	if got := told(p); got != want || len(p.Of) != len(p.Tree.Nodes) {
		t.Errorf("%s:\n%s (of %d), want\n%s (of %d)", short(src), short(got), len(p.Of), short(want), len(p.Tree.Nodes))
	}
	if len(p.Procs) > 0 && !slices.Equal(p.Procs[0].Vars, vars) {
		t.Errorf("%s: variables %v, want %v", short(src), short(p.Procs[0].Vars), short(vars))
	}
}

// numbered is so many times a text, each # in it with the number in letters.
func numbered(count int, text string) string {
	var b strings.Builder
	for i := range count {
		b.WriteString(strings.ReplaceAll(text, "#", fmt.Sprintf("n%d", i)))
	}
	return b.String()
}

// listed is so many names, n0, n1 and so on.
func listed(count int) string { return strings.TrimSuffix(numbered(count, "#, "), ", ") }

func nodes(all ...tree.Node) tree.Tree { return tree.Tree{Nodes: all} }

// everyForm has each form of the grammar at least once, and is right.
const everyForm = "table t(c, d); table u(e); proc p(a, b) single { read x = t[a].c; read y = t[1].d for update; " +
	"set t[x].c = x + y * -2; put t[1](2, a - (b - 1)); delete u[(a)]; scan z = u.e; chop; lock t shared; lock u all; " +
	"release t; release t[-(a * b)]; if a < b { rollback; } else { emit z; } if a == 1 { } for i = 1 to 3 { let x = i; } rollback; } proc q() { }"

// The chapter's examples.
func TestExamples(t *testing.T) { // P7.1
	wantTold(t, "table t(c); proc p(a) { read x = t[a].c; emit x; }", "t0 c0 p0 a0 x1 t0 a0 c0 x1", "a", "x")
	wantError(t, "proc p() { emit @x; }", api.ErrName)
	wantError(t, "proc p() { if 1 < 2 { let x = 1; } emit @x; }", api.ErrName)
	wantError(t, "table t(c, d); proc p() { @put t[1](2); }", api.ErrArity)
	wantError(t, "proc p() { if 1 < 2 { @chop; } }", api.ErrChop)
}

// What a program has, beside what its nodes stand for.
func TestProgram(t *testing.T) { // P7.1
	src := "table t(c, d); proc p(a, b) single { let x = a; } table u(e); proc q() { } proc r(b) { for i = 1 to 2 { } scan x = u.e; }"
	x := mustParse(t, src)
	p := mustResolve(t, src)
	if !reflect.DeepEqual(p.Tree, x) {
		t.Errorf("the tree is %s", short(p.Tree))
	}
	if want := []names.Table{{Name: "t", Cols: []string{"c", "d"}}, {Name: "u", Cols: []string{"e"}}}; !reflect.DeepEqual(p.Tables, want) {
		t.Errorf("tables %v, want %v", p.Tables, want)
	}
	parts := x.Nodes[0].Kids
	for i, want := range []names.Proc{{"p", 2, []string{"a", "b", "x"}, true, parts[1]}, {"q", 0, nil, false, parts[3]}, {"r", 1, []string{"b", "i", "x"}, false, parts[4]}} {
		if got := p.Procs[i]; got.Name != want.Name || got.Params != want.Params || !slices.Equal(got.Vars, want.Vars) || got.Single != want.Single || got.Root != want.Root {
			t.Errorf("procedure %d is %v, want %v", i, got, want)
		}
	}
	if len(p.Procs) != 3 {
		t.Errorf("%d procedures", len(p.Procs))
	}
}

// A program with nothing in it, tables without procedures, procedures without tables.
func TestNothingInIt(t *testing.T) { // P7.1
	for _, x := range []tree.Tree{flat(whole()), nodes(tree.Node{Kind: tree.Program, At: 7, Kids: []int{}}), mustParse(t, " # nothing\n")} {
		p, err := names.Resolve(nil, x)
		if err != nil || len(p.Tables) != 0 || len(p.Procs) != 0 || !slices.Equal(p.Of, []int{-1}) || !tree.Same(p.Tree, x) || p.Tree.Nodes[0].At != x.Nodes[0].At {
			t.Errorf("%v, %v", p, err)
		}
	}
	wantTold(t, "table t(c); table u(c, d);", "t0 c0 u1 c0 d1")
	wantTold(t, "proc p() { } proc q(a) { }", "p0 q1 a0")
}

// What each kind of node stands for, by its number.
func TestWhatNodesStandFor(t *testing.T) { // P7.1
	const ahead = "table s(b); table t(c, d); proc o() { } "
	const toldAhead = "s0 b0 t1 c0 d1 o0 "
	for _, c := range []struct{ proc, want string }{
		{"proc p() { }", "p1"},
		{"proc p(a, b) { }", "p1 a0 b1"},
		{"proc p(a) { read x = t[a].d; }", "p1 a0 x1 t1 a0 d1"},
		{"proc p(a) { read a = s[7].b for update; }", "p1 a0 a0 s0 b0"},
		{"proc p(a) { set t[a].d = a + 1 - -a; }", "p1 a0 t1 a0 d1 a0 a0"},
		{"proc p(a) { put t[a * 2](a, 3); }", "p1 a0 1 t1 a0 a0"},
		{"proc p(a) { put s[1](a); }", "p1 a0 0 s0 a0"},
		{"proc p(a) { delete t[a]; }", "p1 a0 t1 a0"},
		{"proc p() { scan x = t.d; scan y = s.b; }", "p1 x0 t1 d1 y1 s0 b0"},
		{"proc p() { lock t all; lock s shared; }", "p1 t1 s0"},
		{"proc p(a) { release t; release s[a]; release s; }", "p1 a0 t1 s0 a0 s0"},
		{"proc p(a, b) { if a < b { emit a; } else { emit b; } if 1 == 2 { } }", "p1 a0 b1 a0 b1 a0 b1"},
		{"proc p(a) { for i = 1 to 2 { emit i; for j = 3 to 4 { emit j + i; } } }", "p1 a0 i1 i1 j2 j2 i1"},
		{"proc p(a) { let x = a; let x = x; let a = x; }", "p1 a0 x1 a0 x1 x1 a0 x1"},
		{"proc p(a) { emit 1; emit a; emit -(a - 2) * (a + a); }", "p1 a0 a0 a0 a0 a0"},
		{"proc p() { rollback; chop; rollback; chop; }", "p1"},
	} {
		p := mustResolve(t, ahead+c.proc)
		if got := told(p); got != toldAhead+c.want {
			t.Errorf("%s: %s, want %s", c.proc, got, toldAhead+c.want)
		}
	}
	// Of each node of a source with each form, by its kind.
	p := mustResolve(t, everyForm)
	stand := []uint8{tree.Table, tree.Proc, tree.Put, tree.Row, tree.Word, tree.Read, tree.Scan, tree.Let, tree.For, tree.Var}
	seen := map[uint8]bool{}
	for i, n := range p.Tree.Nodes {
		seen[n.Kind] = true
		if (p.Of[i] >= 0) != slices.Contains(stand, n.Kind) || p.Of[i] < -1 {
			t.Errorf("the node %d, of the kind %d, stands for %d", i, n.Kind, p.Of[i])
		}
	}
	if len(seen) != 26 {
		t.Errorf("%d kinds: the test is not worth much", len(seen))
	}
}

// What is declared in a block is there in it from then on, and in the blocks within it, and not behind it.
func TestBlocks(t *testing.T) { // P7.1
	// In both blocks of an if: one each.
	wantTold(t, "proc p() { if 1 < 2 { let x = 1; emit x; } else { let x = 2; emit x; } let x = 3; emit x; }", "p0 x0 x0 x1 x1 x2 x2", "x", "x", "x")
	// From outside: the same one all the way down.
	wantTold(t, "proc p(a) { let x = 1; if x < a { let x = a; if 1 < 2 { let x = 3; for i = 1 to 2 { let x = 4; } } else { let a = x; } } }", "p0 a0 x1 x1 a0 x1 a0 x1 i2 x1 a0 x1", "a", "x", "i")
	// Behind a block it is another one.
	wantTold(t, "proc p() { for i = 1 to 2 { let x = i; } let x = 1; if 1 < 2 { emit x; } }", "p0 i0 x1 i0 x2 x2", "i", "x", "x")
	wantTold(t, "proc p() { if 1 < 2 { if 1 < 2 { let x = 1; } let x = 2; emit x; } else { let x = 3; } }", "p0 x0 x1 x1 x2", "x", "x", "x")
	// What is not there in one block does not take what is in another one away.
	wantTold(t, "proc p(a) { if 1 < 2 { let b = 1; } else { } if 1 < 2 { } else { let b = a; let c = b; } emit a; }", "p0 a0 b1 b2 a0 c3 b2 a0", "a", "b", "b", "c")
	for _, marked := range []string{
		"proc p() { if 1 < 2 { let x = 1; } else { emit @x; } }",
		"proc p() { if 1 < 2 { } else { let x = 1; } emit @x; }",
		"proc p() { if 1 < 2 { if 1 < 2 { let x = 1; } emit @x; } }",
		"proc p() { if 1 < 2 { emit @x; let x = 1; } }",
		"proc p() { emit @x; let x = 1; }",
		"proc p() { if 1 < 2 { emit @x; } let x = 1; }",
		"proc p() { for i = 1 to 2 { let x = 1; } emit @x; }",
		"proc p() { for i = 1 to 2 { emit @x; let x = 1; } }",
		"table t(c); proc p() { if 1 < 2 { read x = t[1].c; scan y = t.c; } emit @x; }",
		"table t(c); proc p() { if 1 < 2 { read x = t[1].c; scan y = t.c; } emit @y; }",
		"proc p() { if 1 < 2 { let x = 1; } if 1 < @x { } }",
		"proc p(a) { if a < 2 { let x = 1; } else { let y = 1; if a == 1 { emit y; emit @x; } } }",
	} {
		wantError(t, marked, api.ErrName)
	}
}

func TestLoops(t *testing.T) { // P7.1
	wantTold(t, "proc p() { for i = 1 to 2 { emit i; } for i = 3 to 4 { emit i; } let i = 5; emit i; }", "p0 i0 i0 i1 i1 i2 i2", "i", "i", "i")
	wantTold(t, "proc p() { for i = 1 to 2 { for j = 1 to 2 { emit i + j; } for j = 1 to 2 { emit j; } } }", "p0 i0 j1 i0 j1 j2 j2", "i", "j", "j")
	wantTold(t, "proc p() { if 1 < 2 { let i = 1; } for i = 1 to 2 { emit i; } }", "p0 i0 i1 i1", "i", "i")
	wantTold(t, "proc p() { if 1 < 2 { for i = 1 to 2 { } } else { for i = 1 to 2 { } } }", "p0 i0 i1", "i", "i")
	// Behind its block it is none.
	wantError(t, "proc p() { for i = 1 to 2 { } emit @i; }", api.ErrName)
	wantError(t, "proc p() { for i = 1 to 2 { for j = 1 to 2 { } emit i; emit @j; } }", api.ErrName)
	// Its name may not be there.
	wantError(t, "proc p(i) { @for i = 1 to 2 { } }", api.ErrTwice)
	wantError(t, "proc p() { let i = 1; @for i = 1 to 2 { } }", api.ErrTwice)
	wantError(t, "proc p() { let i = 1; if 1 < 2 { @for i = 1 to 2 { } } }", api.ErrTwice)
	wantError(t, "proc p() { for i = 1 to 2 { @for i = 1 to 2 { } } }", api.ErrTwice)
	wantError(t, "proc p() { for i = 1 to 2 { if 1 < 2 { } else { @for i = 1 to 2 { } } } }", api.ErrTwice)
	wantError(t, "proc p() { for i = 1 to 2 { let x = 1; @for x = 1 to 2 { } } }", api.ErrTwice)
	// Nothing else is put into it.
	wantError(t, "proc p() { for i = 1 to 2 { @let i = 1; } }", api.ErrTwice)
	wantError(t, "table t(c); proc p() { for i = 1 to 2 { @read i = t[i].c; } }", api.ErrTwice)
	wantError(t, "table t(c); proc p() { for i = 1 to 2 { @read i = t[1].c for update; } }", api.ErrTwice)
	wantError(t, "table t(c); proc p() { for i = 1 to 2 { @scan i = t.c; } }", api.ErrTwice)
	wantError(t, "proc p() { for i = 1 to 2 { if 1 < 2 { for j = 1 to 2 { @let i = j; } } } }", api.ErrTwice)
	wantError(t, "proc p(a) { for i = 1 to 2 { let a = i; let b = a; @let i = b; } }", api.ErrTwice)
	// A loop's own numbers are numbers: what names its variable there is no right tree.
	wantNoTree(t, nil, inProc(sk(tree.For, "i", 0, varOf("i"), num(1), block())))
	wantNoTree(t, nil, inProc(sk(tree.For, "i", 0, num(1), varOf("i"), block())))
}

// A statement's own expressions are read ahead of its variable.
func TestItsOwnVariable(t *testing.T) { // P7.1
	wantError(t, "proc p() { let x = @x + 1; }", api.ErrName)
	wantError(t, "table t(c); proc p() { read x = t[@x].c; }", api.ErrName)
	wantTold(t, "proc p() { let x = 1; let x = x + x; }", "p0 x0 x0 x0 x0", "x")
	wantTold(t, "table t(c); proc p(x) { read x = t[x].c; scan x = t.c; let x = x; read y = t[1].c; read y = t[y].c; scan z = t.c; scan z = t.c; }",
		"t0 c0 p0 x0 x0 t0 x0 c0 x0 t0 c0 x0 x0 y1 t0 c0 y1 t0 y1 c0 z2 t0 c0 z2 t0 c0", "x", "y", "z")
	// In a block within: still the one outside.
	wantTold(t, "proc p() { let x = 1; if 1 < 2 { let x = x; } emit x; }", "p0 x0 x0 x0 x0", "x")
}

// Names of different kinds have nothing to do with one another.
func TestNamesOfDifferentKinds(t *testing.T) { // P7.1
	wantTold(t, "table p(p); table c(d, p); proc p(p) { read c = p[p].p; read d = c[c].p; set p[d].p = p; scan p = p.p; lock p all; release p; } proc c(d) { let p = d; }",
		"p0 p0 c1 d0 p1 p0 p0 c1 p0 p0 p0 d2 c1 c1 p1 p0 d2 p0 p0 p0 p0 p0 p0 p0 c1 d0 p1 d0", "p", "c", "d")
	wantTold(t, "table t(c); proc p() { for t = 1 to 2 { read c = t[t].c; } }", "t0 c0 p0 t0 c1 t0 t0 c0", "t", "c")
	wantError(t, "table t(c); proc p() { emit @t; }", api.ErrName)
	wantError(t, "table t(c); proc p() { emit @c; }", api.ErrName)
	wantError(t, "proc p() { emit @p; }", api.ErrName)
	wantError(t, "proc p(t) { lock @t all; }", api.ErrName)
	wantError(t, "proc p(t) { emit t; delete @t[1]; }", api.ErrName)
	wantError(t, "table t(c); proc p(d) { scan x = t.@d; }", api.ErrName)
	// What one procedure declares is not there in the next one.
	wantError(t, "proc p(a) { let x = 1; } proc q() { emit @a; }", api.ErrName)
	wantError(t, "proc p(a) { let x = 1; } proc q() { emit @x; }", api.ErrName)
}

// A procedure may name a table that stands behind it.
func TestTablesBehindProcedures(t *testing.T) { // P7.1
	wantTold(t, "proc p() { put u[1](2); lock t all; } table t(c, d); proc q() { scan x = u.e; } table u(e);", "p0 1 u1 t0 t0 c0 d1 q1 x0 u1 e0 u1 e0")
}

func TestNamesThatAreThereAlready(t *testing.T) { // P7.1
	for _, marked := range []string{
		"table t(c); @table t(d);",
		"table t(c); table u(c); @table t(d); table u(c);",
		"table t(c); proc t() { } @table t(d); proc t() { }",
		"table t(c, @c);",
		"table t(c, d, e, @d, c);",
		"table u(c, d); table t(d, c, @d);",
		"proc p() { } @proc p() { }",
		"proc p() { } proc q() { } @proc p(a) single { }",
		"proc p() { } table p(p); @proc p() { } table p(p);",
		"proc p(a, @a) { }",
		"proc p(a, b, c, @b, a) { }",
		"proc q(a) { } proc p(b, a, @a) { }",
	} {
		wantError(t, marked, api.ErrTwice)
	}
}

func TestNamesThatNothingHas(t *testing.T) { // P7.1
	const ahead = "table t(c, d); table u(e); proc p(a) { "
	for _, marked := range []string{
		"read x = @v[1].c; }", "read x = t[1].@e; }", "read x = t[@b].c; }", "read x = u[1].@c for update; }",
		"set @v[1].c = 1; }", "set t[1].@e = 1; }", "set t[@b].c = 1; }", "set t[1].c = @b; }", "set t[1].c = a + (2 - -@b); }",
		"put @v[1](1); }", "put u[@b](1); }", "put u[1](@b); }", "put t[1](a, @b); }",
		"delete @v[1]; }", "delete t[@b]; }", "delete t[a * @b]; }",
		"scan x = @v.c; }", "scan x = t.@e; }", "scan x = u.@c; }",
		"lock @v all; }", "lock @v shared; }", "release @v; }", "release @v[1]; }", "release t[@b]; }",
		"if @b < 1 { } }", "if 1 < @b { } }", "if a == @b { } else { } }", "if 1 < 2 { emit @b; } }", "if 1 < 2 { } else { emit @b; } }",
		"for i = 1 to 2 { emit @b; } }", "let x = @b; }", "emit @b; }", "emit a - @b; }", "emit -@b; }", "emit (a + a) * (a - @b); }",
	} {
		wantError(t, ahead+marked, api.ErrName)
	}
}

func TestValuesOfAPut(t *testing.T) { // P7.1
	const ahead = "table t(c); table u(c, d, e); proc p(a) { "
	wantTold(t, ahead+"put t[1](a); put u[1](a, a, a); }", "t0 c0 u1 c0 d1 e2 p0 a0 0 t0 a0 1 u1 a0 a0 a0", "a")
	for _, marked := range []string{
		"@put t[1](a, a); }", "@put t[1](a, a, a); }", "@put u[1](a); }", "@put u[1](a, a); }", "@put u[1](a, a, a, a); }",
		"put t[1](a); @put u[1](a); }", "if 1 < 2 { @put u[a](a); } }",
	} {
		wantError(t, ahead+marked, api.ErrArity)
	}
	widest := "table t(" + listed(16) + "); proc p() { put t[1](1" + strings.Repeat(", 1", 15) + "); "
	mustResolve(t, widest+"}")
	wantError(t, widest+"@put t[1](1"+strings.Repeat(", 1", 16)+"); }", api.ErrArity)
	wantError(t, widest+"@put t[1](1"+strings.Repeat(", 1", 14)+"); }", api.ErrArity)
}

func TestChops(t *testing.T) { // P7.1
	wantTold(t, "proc p() { chop; let x = 1; chop; if 1 < 2 { } chop; for i = 1 to 2 { } chop; } proc q() { chop; }", "p0 x0 i1 q1", "x", "i")
	for _, marked := range []string{
		"proc p() { if 1 < 2 { @chop; } }", "proc p() { if 1 < 2 { } else { @chop; } }", "proc p() { for i = 1 to 2 { @chop; } }",
		"proc p() { chop; if 1 < 2 { if 1 < 2 { } @chop; chop; } }", "proc p() { for i = 1 to 2 { for j = 1 to 2 { } @chop; } chop; }",
		"proc p() { if 1 < 2 { for i = 1 to 2 { } } else { if 1 == 2 { let x = 1; @chop; } } }",
	} {
		wantError(t, marked, api.ErrChop)
	}
}

// As many as may be, and one more.
func TestLimits(t *testing.T) { // P7.1
	if p := mustResolve(t, numbered(64, "table #(c); ")+numbered(64, "proc #() { } ")); len(p.Tables) != 64 || len(p.Procs) != 64 || names.Find(p, "n63") != 63 {
		t.Errorf("%d tables, %d procedures", len(p.Tables), len(p.Procs))
	}
	wantError(t, numbered(64, "table #(c); ")+"@table t(c); table u(c);", api.ErrLimit)
	wantError(t, numbered(32, "table #(c); proc #() { } ")+numbered(32, "table t#(c); ")+"proc p() { } @table t(c);", api.ErrLimit)
	wantError(t, numbered(64, "proc #() { } ")+"@proc p() { } proc q() { }", api.ErrLimit)
	wantError(t, numbered(32, "proc #() { } ")+"table t(c); "+numbered(32, "proc q#() { } ")+"@proc p() { }", api.ErrLimit)
	if p := mustResolve(t, "table t("+listed(16)+"); table u("+listed(16)+");"); len(p.Tables[1].Cols) != 16 {
		t.Errorf("%v", p.Tables)
	}
	wantError(t, "@table t("+listed(17)+");", api.ErrLimit)
	wantError(t, "table t("+listed(16)+"); @table u("+listed(40)+");", api.ErrLimit)
	if p := mustResolve(t, "proc p("+listed(64)+") { emit n63; }"); p.Procs[0].Params != 64 || len(p.Procs[0].Vars) != 64 {
		t.Errorf("%v", p.Procs)
	}
	wantError(t, "proc p("+listed(64)+", @m) { }", api.ErrLimit)
	wantError(t, "proc p("+listed(64)+", @m, l, m) { emit x; }", api.ErrLimit)
}

// Of variables each one that is declared counts, whether it is there any more or not.
func TestAsManyVariablesAsMayBe(t *testing.T) { // P7.1
	const ahead = "table t(c); proc p(a, b) { "
	for _, lets := range []string{
		numbered(62, "let # = 1; "), numbered(62, "if 1 < 2 { let x = 1; } "), numbered(31, "for i = 1 to 2 { let x = i; } "), numbered(31, "if 1 < 2 { read x = t[1].c; } else { scan x = t.c; } "),
		numbered(62, "for # = 1 to 2 { ") + strings.Repeat("} ", 62), numbered(31, "let # = 1; let # = #; ") + numbered(31, "read r# = t[1].c; "), "for i = 1 to 2 { if 1 < 2 { let y = 1; } " + numbered(60, "if i < 1 { let y = i; } ") + "} ",
	} {
		p := mustResolve(t, ahead+lets+"let a = 1; read b = t[1].c; scan a = t.c; emit b; }")
		if got := p.Procs[0].Vars; len(got) != 64 || got[0] != "a" || got[1] != "b" {
			t.Errorf("%s: %d variables, %v", short(lets), len(got), got)
		}
		for _, one := range []string{"@let m = 1; ", "@read m = t[1].c; ", "@read m = t[a].c for update; ", "@scan m = t.c; ", "@for m = 1 to 2 { } ", "if 1 < 2 { @let m = a; } "} {
			wantError(t, ahead+lets+"let a = 1; "+one+"let l = 1; }", api.ErrLimit)
		}
	}
	// Deeper than a source may be, by hand: each variable there, the last one declared in the innermost block.
	for _, count := range []int{64, 65} {
		s := bare(tree.Emit, varOf("n0"))
		for i := count - 1; i >= 0; i-- {
			s = sk(tree.For, fmt.Sprintf("n%d", i), 0, num(1), num(2), block(bare(tree.Emit, varOf(fmt.Sprintf("n%d", i))), s))
		}
		p, err := names.Resolve(nil, inProc(s))
		if count == 64 && (err != nil || len(p.Procs[0].Vars) != 64) || count == 65 && diag.Code(err) != api.ErrLimit {
			t.Errorf("%d loops: %v", count, err)
		}
	}
}

// Tables and procedures come first, as they stand; then the procedures as they are read.
func TestWhichErrorComesFirst(t *testing.T) { // P7.1
	seventeen := "c" + strings.Repeat(", c", 16)
	full := numbered(62, "let # = 1; ")
	for _, c := range []struct {
		marked string
		e      api.Errno
	}{
		// As they stand.
		{"proc p() { } @proc p() { } table t(c, c); table t(d);", api.ErrTwice},
		{"table t(c, @c); proc p() { } proc p() { }", api.ErrTwice},
		{"proc p() { } table t(c); @table t(d); proc p() { }", api.ErrTwice},
		{"@table t(" + seventeen + "); table t(d);", api.ErrLimit},
		{"table t(c); table u(d, @d); table v(" + seventeen + ");", api.ErrTwice},
		{numbered(64, "proc #() { } ") + "@proc p() { } table t(c, c);", api.ErrLimit},
		{numbered(64, "proc #() { } ") + "table t(c, @c); proc p() { }", api.ErrTwice},
		{numbered(64, "table #(c); ") + "@table t(c, c);", api.ErrLimit},
		// Of one table: its name, how many there are, its columns.
		{"table t(c); @table t(d, d);", api.ErrTwice},
		{"table t(c); @table t(" + seventeen + ");", api.ErrTwice},
		{"@table t(" + seventeen + ");", api.ErrLimit},
		{numbered(64, "table #(c); ") + "@table n7(d, d);", api.ErrTwice},
		{numbered(64, "proc #() { } ") + "@proc n63(a, a) { }", api.ErrTwice},
		// All of that ahead of what is in a procedure.
		{"proc p(a, a) { emit x; chop; } table t(c, @c);", api.ErrTwice},
		{"proc p() { emit x; } @proc p() { }", api.ErrTwice},
		{"proc p() { if 1 < 2 { chop; } } @table t(" + seventeen + ");", api.ErrLimit},
		{"proc p(" + listed(65) + ") { } @proc p() { }", api.ErrTwice},
		// Procedure by procedure, as it is read.
		{"proc p() { emit 1; if 1 < 2 { @chop; } } proc q(a, a) { emit x; }", api.ErrChop},
		{"proc p(a, @a) { emit x; }", api.ErrTwice},
		{"proc p(a, b, @a, b) { }", api.ErrTwice},
		{"proc p(" + listed(64) + ", @n0, m) { }", api.ErrTwice},
		{"proc p(" + listed(64) + ", @m, n0) { }", api.ErrLimit},
		{"proc p() { emit @x; if 1 < 2 { chop; } }", api.ErrName},
		{"proc p() { if 1 < 2 { @chop; } emit x; }", api.ErrChop},
		{"proc p() { if @x < y { chop; } }", api.ErrName},
		{"proc p() { if 1 < @y { chop; } else { emit x; } }", api.ErrName},
		{"proc p() { if 1 < 2 { emit @x; } else { chop; } }", api.ErrName},
		{"proc p() { emit @x + y; }", api.ErrName},
		{"proc p() { emit (1 - @x) * -y; }", api.ErrName},
		// Of one statement: its kids, in order, then its variable.
		{"proc p() { for i = 1 to 2 { let i = @x; } }", api.ErrName},
		{"proc p() { for i = 1 to 2 { read i = @t[x].c; } }", api.ErrName},
		{"table t(c); proc p() { for i = 1 to 2 { read i = t[@x].d; } }", api.ErrName},
		{"table t(c); proc p() { for i = 1 to 2 { read i = t[1].@d; } }", api.ErrName},
		{"table t(c); proc p() { for i = 1 to 2 { scan i = @s.d; } }", api.ErrName},
		{"table t(c); proc p() { for i = 1 to 2 { scan i = t.@d; } }", api.ErrName},
		{"table t(c); proc p() { set @s[x].d = y; }", api.ErrName},
		{"table t(c); proc p() { set t[@x].d = y; }", api.ErrName},
		{"table t(c); proc p() { set t[1].@d = y; }", api.ErrName},
		{"table t(c); proc p() { set t[1].c = @y; }", api.ErrName},
		{"table t(c); proc p() { delete @s[x]; }", api.ErrName},
		{"table t(c); proc p(a, b) { " + full + "let m = @x; }", api.ErrName},
		{"table t(c); proc p(a, b) { " + full + "read m = t[1].@d; }", api.ErrName},
		{"table t(c); proc p(a, b) { " + full + "scan m = @s.c; }", api.ErrName},
		// A For's variable: ahead of what is in its block.
		{"proc p(i) { @for i = 1 to 2 { emit x; } }", api.ErrTwice},
		{"proc p(a, b) { " + full + "@for i = 1 to 2 { emit x; chop; } }", api.ErrLimit},
		{"proc p(a, b) { " + full + "@for a = 1 to 2 { } }", api.ErrTwice},
		// A Put: its table, then how many values, then what is in it.
		{"table t(c); proc p() { put @s[x](y, z); }", api.ErrName},
		{"table t(c); proc p() { @put t[x](y, z); }", api.ErrArity},
		{"table t(c); proc p() { @put t[1](y, z); }", api.ErrArity},
		{"table t(c); proc p() { put t[@x](y); }", api.ErrName},
		{"table t(c); proc p() { put t[1](@y); }", api.ErrName},
		{"table t(c, d); proc p() { put t[1](@y, z); }", api.ErrName},
	} {
		wantError(t, c.marked, c.e)
	}
	// Unless the tree is right, nothing else is asked.
	x := mustParse(t, "table t(c); table t(c, c); proc p() { emit x; }")
	x.Nodes[len(x.Nodes)-1].Text = "X"
	wantNoTree(t, nil, x)
}

// Places are the nodes' own, brought into the source, whatever they are.
func TestPlaces(t *testing.T) { // P7.1
	x := mustParse(t, "proc p() { emit x; }")
	last := len(x.Nodes) - 1
	for _, at := range []int{-1 << 62, -1, 0, 1, 5, 6, 1 << 62} {
		x.Nodes[last].At = at
		for _, src := range []string{"", "\n", "proc p", "a\nb\nc"} {
			wantErrorAt(t, []byte(src), x, api.ErrName, at)
		}
		wantErrorAt(t, nil, x, api.ErrName, at)
	}
	// Its line, and its column.
	src := "table t(c);\n\nproc p() {\n\temit 1;\n\tput t[1](2, 3);\n}\n"
	_, err := names.Resolve([]byte(src), mustParse(t, src))
	if _, line, col, ok := diag.Place(err); !ok || line != 5 || col != 2 {
		t.Errorf("%v", err)
	}
}

// Trees that are not right, by hand.
func TestTreesThatAreNotRight(t *testing.T) { // P7.1
	program := tree.Node{Kind: tree.Program, Kids: []int{1}}
	one := tree.Node{Kind: tree.Number, N: 1}
	for _, x := range []tree.Tree{
		{}, nodes(), nodes(tree.Node{}), nodes(one), nodes(tree.Node{Kind: tree.Block}), nodes(tree.Node{Kind: 255}), nodes(tree.Node{Kind: tree.Program, Text: "p"}), nodes(tree.Node{Kind: tree.Program, N: 1}),
		nodes(tree.Node{Kind: tree.Program, Kids: []int{0}}), nodes(program), nodes(tree.Node{Kind: tree.Program, Kids: []int{-1}}), nodes(tree.Node{Kind: tree.Program}, one), nodes(program, one), nodes(program, tree.Node{Kind: tree.Table, Text: "t"}),
		flat(whole(table("", word("c")))), flat(whole(table("T", word("c")))), flat(whole(table("t"))), flat(whole(table("t", num(1)))), flat(whole(block())), flat(whole(bare(tree.Chop))),
		flat(whole(sk(tree.Proc, "p", 2, bare(tree.Names), block()))), flat(whole(sk(tree.Proc, "p", 0, block()))), flat(whole(sk(tree.Proc, "p", 0, bare(tree.Names)))), flat(whole(sk(tree.Proc, "", 0, bare(tree.Names), block()))),
		inProc(block()), inProc(num(1)), inProc(row("t", num(1))), inProc(sk(tree.Read, "x", 2, row("t", num(1)), word("c"))), inProc(sk(tree.Read, "x", 0, word("c"), row("t", num(1)))), inProc(sk(tree.Read, "x", 0, row("t", num(1)))),
		inProc(bare(tree.Set, row("t", num(1)), word("c"))), inProc(bare(tree.Put, row("t", num(1)))), inProc(bare(tree.Put, num(1), num(1))), inProc(bare(tree.Delete)), inProc(sk(tree.Scan, "x", 0, word("t"))), inProc(bare(tree.Lock)), inProc(bare(tree.Release)), inProc(bare(tree.Release, num(1))),
		inProc(bare(tree.If, num(1), num(2))), inProc(bare(tree.If, num(1), num(2), bare(tree.Chop))), inProc(sk(tree.For, "i", 0, num(1), num(2))), inProc(sk(tree.Let, "x", 0)), inProc(bare(tree.Let, num(1))), inProc(bare(tree.Emit)), inProc(bare(tree.Chop, num(1))),
		inProc(bare(tree.Emit, num(-1))), inProc(bare(tree.Emit, varOf("1a"))), inProc(bare(tree.Emit, bare(tree.Plus, num(1)))), inProc(bare(tree.Delete, row("t", row("t", num(1))))), inProc(bare(tree.Emit, sk(tree.Neg, "x", 0, num(1)))),
	} {
		wantNoTree(t, []byte("table t(c);"), x)
		wantNoTree(t, nil, x)
	}
}

// Each node spoilt in each way: what is then no right tree is refused, what still is one is read as the second reading does.
func TestSpoiltTrees(t *testing.T) { // P7.1
	base := mustParse(t, everyForm)
	right, wrong := 0, 0
	try := func(i int, n tree.Node) {
		x := tree.Tree{Nodes: slices.Clone(base.Nodes)}
		x.Nodes[i] = n
		if tree.Right(x) {
			right++
			wantAsRead(t, []byte(everyForm), x)
		} else {
			wrong++
			wantNoTree(t, []byte(everyForm), x)
		}
	}
	for i, n := range base.Nodes {
		for kind := range uint8(28) {
			spoilt := n
			spoilt.Kind = kind
			try(i, spoilt)
		}
		for _, text := range []string{"", "a", "b", "c", "d", "e", "i", "p", "q", "t", "u", "x", "A", "a b", "1"} {
			spoilt := n
			spoilt.Text = text
			try(i, spoilt)
		}
		for _, number := range []int64{-1, 0, 1, 2, 1 << 31, -1 << 63} {
			spoilt := n
			spoilt.N = number
			try(i, spoilt)
		}
		for _, kids := range [][]int{nil, {}, {i}, {i + 1}, {i + 1, i + 2}, {i + 2, i + 1}, {-1}, {len(base.Nodes)}, append(slices.Clone(n.Kids), i+1)} {
			spoilt := n
			spoilt.Kids = kids
			try(i, spoilt)
		}
	}
	if right < 300 || wrong < 1000 {
		t.Errorf("%d right, %d wrong: the test is not worth much", right, wrong)
	}
}

// wantAsRead holds what is answered of a right tree against the second reading.
func wantAsRead(t *testing.T, src []byte, x tree.Tree) {
	t.Helper()
	want, e, node := readAs(x)
	if e != api.OK {
		wantErrorAt(t, src, x, e, x.Nodes[node].At)
		return
	}
	got, err := names.Resolve(src, x)
	if err != nil || !alike(got, want) {
		t.Fatalf("Resolve(%s) = %v,\n%v, want\n%v", short(x), err, short(got), short(want))
	}
}

// alike tells whether two programs are the same, a nil list and one without anything in it being so.
func alike(a, b names.Program) bool {
	return tree.Same(a.Tree, b.Tree) && slices.EqualFunc(a.Tree.Nodes, b.Tree.Nodes, func(m, n tree.Node) bool { return m.At == n.At }) && slices.Equal(a.Of, b.Of) &&
		slices.EqualFunc(a.Tables, b.Tables, func(s, t names.Table) bool { return s.Name == t.Name && slices.Equal(s.Cols, t.Cols) }) &&
		slices.EqualFunc(a.Procs, b.Procs, func(p, q names.Proc) bool {
			return p.Name == q.Name && p.Params == q.Params && p.Single == q.Single && p.Root == q.Root && slices.Equal(p.Vars, q.Vars)
		})
}

// drawn gives programs of all sorts, each node at a place of its own; and a source with as many bytes, of several lines.
func drawn(seed int64, count, slips int, give func(r *rand.Rand, src []byte, x tree.Tree)) {
	r := rand.New(rand.NewSource(seed))
	for range count {
		x := (&pencil{Rand: r, slips: slips}).program()
		src := make([]byte, len(x.Nodes)+r.Intn(9))
		for i := range src {
			src[i] = []byte("\nab")[r.Intn(3)]
		}
		for i, at := range r.Perm(len(x.Nodes)) {
			x.Nodes[i].At = at
		}
		give(r, src, x)
	}
}

// Programs that are drawn are read as the second reading does.
func TestDrawnPrograms(t *testing.T) { // P7.1
	counts := map[api.Errno]int{}
	errors := map[string]int{}
	for _, slips := range []int{20, 100, 1 << 40} {
		drawn(int64(71+slips), 4000, slips, func(r *rand.Rand, src []byte, x tree.Tree) {
			wantAsRead(t, src, x)
			_, e, node := readAs(x)
			counts[e]++
			if e != api.OK {
				errors[fmt.Sprintf("%d at %d", e, x.Nodes[node].Kind)]++
			}
		})
		if t.Failed() {
			return
		}
	}
	for _, e := range []api.Errno{api.OK, api.ErrTwice, api.ErrLimit, api.ErrName, api.ErrArity, api.ErrChop} {
		if counts[e] < 30 {
			t.Errorf("%v came %d times: the test is not worth much", e, counts[e])
		}
	}
	if counts[api.OK] < 4000 || len(errors) < 10 {
		t.Errorf("%v, %v: the test is not worth much", counts, errors)
	}
}

func TestFind(t *testing.T) { // P7.2
	p := mustResolve(t, "table t(c); proc p(a) { let x = a; } proc q() { } table u(c); proc c() { } proc pp() { }")
	for name, want := range map[string]int{"p": 0, "q": 1, "c": 2, "pp": 3, "t": -1, "u": -1, "a": -1, "x": -1, "": -1, "P": -1, "p ": -1, "ppp": -1, "\xff": -1} {
		if got := names.Find(p, name); got != want {
			t.Errorf("Find(%q) = %d, want %d", name, got, want)
		}
	}
	if got := names.Find(names.Program{}, "p"); got != -1 {
		t.Errorf("of nothing: %d", got)
	}
	if got := names.Find(names.Program{}, ""); got != -1 {
		t.Errorf("of nothing, nothing: %d", got)
	}
	if got := names.Find(mustResolve(t, "table p(c);"), "p"); got != -1 {
		t.Errorf("of a table: %d", got)
	}
	// Made by hand: the procedures alone are asked, the first one of that name.
	byHand := names.Program{Procs: []names.Proc{{Name: "a"}, {Name: ""}, {Name: "b", Root: -7}, {Name: "b"}, {Name: "B!"}}}
	for name, want := range map[string]int{"a": 0, "": 1, "b": 2, "B!": 4, "c": -1} {
		if got := names.Find(byHand, name); got != want {
			t.Errorf("Find(%q) = %d, want %d", name, got, want)
		}
	}
	many := mustResolve(t, numbered(64, "proc #() { } "))
	for i := range 64 {
		if got := names.Find(many, fmt.Sprintf("n%d", i)); got != i {
			t.Errorf("Find(n%d) = %d", i, got)
		}
	}
}

// some are sources and trees of all sorts, right and wrong.
func some(t *testing.T) (srcs [][]byte, trees []tree.Tree) {
	add := func(src string, x tree.Tree) {
		srcs, trees = append(srcs, []byte(src)), append(trees, x)
	}
	for _, src := range []string{"", everyForm, "table t(c, d);", "proc p(a) { }", "proc p() { emit x; }", "table t(c, c);", "proc p(a, a) { }", "proc p() { if 1 < 2 { chop; } }", "@"} {
		x, _ := parse.Parse([]byte(src))
		add(src, x)
	}
	add("x", tree.Tree{})
	add("x", inProc(bare(tree.Emit)))
	for _, slips := range []int{30, 1 << 40} {
		drawn(int64(72+slips), 40, slips, func(r *rand.Rand, src []byte, x tree.Tree) { add(string(src), x) })
	}
	return srcs, trees
}

// roomy is the same tree with room behind each list, filled with what would spoil it.
func roomy(x tree.Tree) tree.Tree {
	y := tree.Tree{Nodes: make([]tree.Node, 0, len(x.Nodes)+3)}
	for _, n := range x.Nodes {
		kids := make([]int, 0, len(n.Kids)+3)
		n.Kids = append(kids, n.Kids...)
		copy(n.Kids[len(n.Kids):cap(n.Kids)], []int{-7, 1, 0})
		n.Text = strings.Clone(n.Text)
		y.Nodes = append(y.Nodes, n)
	}
	copy(y.Nodes[len(y.Nodes):cap(y.Nodes)], []tree.Node{{Kind: tree.Chop, Text: "x"}, {Kind: tree.Neg, N: 7, Kids: []int{1}}, {Kind: 99}})
	return y
}

// allOf is a tree with what lies behind its lists.
func allOf(x tree.Tree) []tree.Node {
	all := slices.Clone(x.Nodes[:cap(x.Nodes)])
	for i, n := range all {
		all[i].Kids = slices.Clone(n.Kids[:cap(n.Kids)])
		all[i].Text = strings.Clone(n.Text)
	}
	return all
}

func TestWhatIsHandedInIsOnlyRead(t *testing.T) { // P7.3
	srcs, trees := some(t)
	for i, x := range trees {
		src, y := append(slices.Clone(srcs[i]), "\n\n\n"...), roomy(x)
		srcBefore, before := slices.Clone(src), allOf(y)
		p, err := names.Resolve(src[:len(srcs[i])], y)
		if !reflect.DeepEqual(allOf(y), before) || !slices.Equal(src, srcBefore) {
			t.Fatalf("Resolve(%s) has written", short(x))
		}
		// What lies behind is not asked either.
		q, other := names.Resolve(srcs[i], x)
		if !alike(p, q) || !reflect.DeepEqual(err, other) {
			t.Fatalf("Resolve(%s) = %v, and %v", short(x), err, other)
		}
		for _, name := range []string{"p", "a", "none"} {
			names.Find(p, name)
		}
		if !alike(p, q) {
			t.Fatalf("Find has written into %s", short(p))
		}
	}
}

// span is a piece of memory: where it begins, and how long it is.
type span struct {
	what string
	from uintptr
	long uintptr
}

func spanOf[T any](what string, list []T) span {
	return span{what, uintptr(unsafe.Pointer(unsafe.SliceData(list))), uintptr(cap(list)) * unsafe.Sizeof(*new(T))}
}

func spanOfText(what, text string) span {
	return span{what, uintptr(unsafe.Pointer(unsafe.StringData(text))), uintptr(len(text))}
}

func spansOfTree(what string, x tree.Tree) []span {
	all := []span{spanOf(what+"'s nodes", x.Nodes)}
	for i, n := range x.Nodes {
		all = append(all, spanOf(fmt.Sprintf("%s's kids of %d", what, i), n.Kids), spanOfText(fmt.Sprintf("%s's text of %d", what, i), n.Text))
	}
	return all
}

func spansOf(what string, p names.Program) []span {
	all := append(spansOfTree(what, p.Tree), spanOf(what+"'s tables", p.Tables), spanOf(what+"'s procedures", p.Procs), spanOf(what+"'s Of", p.Of))
	for i, table := range p.Tables {
		all = append(all, spanOfText(fmt.Sprintf("%s's name of the table %d", what, i), table.Name), spanOf(fmt.Sprintf("%s's columns of %d", what, i), table.Cols))
		for k, col := range table.Cols {
			all = append(all, spanOfText(fmt.Sprintf("%s's column %d of %d", what, k, i), col))
		}
	}
	for i, proc := range p.Procs {
		all = append(all, spanOfText(fmt.Sprintf("%s's name of the procedure %d", what, i), proc.Name), spanOf(fmt.Sprintf("%s's variables of %d", what, i), proc.Vars))
		for k, name := range proc.Vars {
			all = append(all, spanOfText(fmt.Sprintf("%s's variable %d of %d", what, k, i), name))
		}
	}
	return all
}

// shared tells of two pieces of memory that overlap.
func shared(all []span) string {
	all = slices.DeleteFunc(all, func(s span) bool { return s.long == 0 })
	slices.SortFunc(all, func(a, b span) int { return int(int64(a.from) - int64(b.from)) })
	for i := 1; i < len(all); i++ {
		if all[i-1].from+all[i-1].long > all[i].from {
			return all[i-1].what + " and " + all[i].what
		}
	}
	return ""
}

// P7.3: what is answered is shared with nothing: not with what was handed in, nor with another answer, nor within itself.
func TestTheAnswerIsNewMemory(t *testing.T) {
	srcs, trees := some(t)
	for i, x := range trees {
		// Texts of a byte may all be the same one: longer ones are memory of their own.
		y := roomy(x)
		for k, n := range y.Nodes {
			if n.Text != "" {
				y.Nodes[k].Text = n.Text + "_longer"
			}
		}
		src := slices.Clone(srcs[i])
		one, err := names.Resolve(src, y)
		if err != nil {
			continue
		}
		two, _ := names.Resolve(src, y)
		all := slices.Concat([]span{spanOf("the source", src)}, spansOfTree("the tree", y), spansOf("one", one), spansOf("two", two))
		if both := shared(all); both != "" {
			t.Fatalf("%s: %s share memory", short(x), both)
		}
		want, _, _ := readAs(roomy(y))
		// What becomes of the tree, and of the other answer, is nothing to it.
		for k := range y.Nodes {
			clear(y.Nodes[k].Kids[:cap(y.Nodes[k].Kids)])
			y.Nodes[k] = tree.Node{}
		}
		clear(src)
		for k := range two.Tree.Nodes {
			clear(two.Tree.Nodes[k].Kids)
		}
		clear(two.Tree.Nodes)
		clear(two.Tables)
		clear(two.Procs)
		clear(two.Of)
		if !alike(one, want) {
			t.Fatalf("%s has changed", short(one))
		}
	}
}

// respaced writes a source's tokens with other blanks between them.
func respaced(t *testing.T, r *rand.Rand, src string) string {
	t.Helper()
	tokens, err := lex.Lex([]byte(src))
	if err != nil {
		t.Fatal(err)
	}
	var b strings.Builder
	for _, token := range tokens {
		b.WriteString([]string{" ", "\t", "\n\n", " \r\n", "#\n", "# } ; proc\n", " #a#b\n\t"}[r.Intn(7)])
		b.WriteString(token.Text)
	}
	return b.String()
}

// Whatever blanks stand between the tokens, names stand for the same; and what is wrong stays, at the same token.
func TestBlanks(t *testing.T) { // P7.4
	resolved, refused := 0, 0
	for _, slips := range []int{40, 1 << 40} {
		drawn(int64(73+slips), 300, slips, func(r *rand.Rand, _ []byte, x tree.Tree) {
			b, err := print.Print(x)
			if err != nil {
				return
			}
			src := string(b)
			other := respaced(t, r, src)
			x, y := mustParse(t, src), mustParse(t, other)
			p, err := names.Resolve([]byte(src), x)
			q, otherErr := names.Resolve([]byte(other), y)
			if err == nil {
				resolved++
				for i := range x.Nodes {
					if q.Tree.Nodes[i].At != y.Nodes[i].At {
						t.Fatalf("%s: another place of %d", short(other), i)
					}
					q.Tree.Nodes[i].At = p.Tree.Nodes[i].At
				}
				if otherErr != nil || !alike(p, q) {
					t.Fatalf("%s: %v\n%v\n%v", short(other), otherErr, short(p), short(q))
				}
				return
			}
			refused++
			_, e, node := readAs(x)
			wantErrorAt(t, []byte(src), x, e, x.Nodes[node].At)
			wantErrorAt(t, []byte(other), y, e, y.Nodes[node].At)
		})
	}
	if resolved < 300 || refused < 100 {
		t.Errorf("%d were resolved, %d refused: the test is not worth much", resolved, refused)
	}
}

// alone is a tree with just one of its procedures and all tables; and which node of the whole each of its nodes is.
func alone(x tree.Tree, root int) (tree.Tree, []int) {
	y := tree.Tree{Nodes: []tree.Node{{Kind: tree.Program, At: x.Nodes[0].At}}}
	from := []int{0}
	for _, part := range x.Nodes[0].Kids {
		if x.Nodes[part].Kind == tree.Proc && part != root {
			continue
		}
		y.Nodes[0].Kids = append(y.Nodes[0].Kids, len(y.Nodes))
		by := len(y.Nodes) - part
		for i := part; i < part+tree.Size(x, part); i++ {
			n := x.Nodes[i]
			n.Kids = slices.Clone(n.Kids)
			for k := range n.Kids {
				n.Kids[k] += by
			}
			y.Nodes = append(y.Nodes, n)
			from = append(from, i)
		}
	}
	return y, from
}

// Each procedure with all tables is a program by itself, in which its names stand for the same.
func TestEachProcedureByItself(t *testing.T) { // P7.4
	procs := 0
	try := func(src []byte, x tree.Tree) {
		p, err := names.Resolve(src, x)
		if err != nil {
			t.Fatal(err)
		}
		for number, proc := range p.Procs {
			procs++
			y, from := alone(x, proc.Root)
			q, err := names.Resolve(src, y)
			if err != nil || len(q.Procs) != 1 || !reflect.DeepEqual(p.Tables, q.Tables) {
				t.Fatalf("%s by itself: %v", proc.Name, err)
			}
			one := q.Procs[0]
			if from[one.Root] != proc.Root || one.Name != proc.Name || one.Params != proc.Params || one.Single != proc.Single || !slices.Equal(one.Vars, proc.Vars) {
				t.Fatalf("%v by itself: %v", proc, one)
			}
			for i, of := range q.Of {
				if from[i] == proc.Root && (of != 0 || p.Of[proc.Root] != number) || from[i] != proc.Root && of != p.Of[from[i]] {
					t.Fatalf("%s by itself: the node %d stands for %d, not %d", proc.Name, i, of, p.Of[from[i]])
				}
			}
		}
	}
	drawn(74, 400, 1<<40, func(r *rand.Rand, src []byte, x tree.Tree) { try(src, x) })
	try([]byte(everyForm), mustParse(t, everyForm))
	if procs < 400 {
		t.Errorf("%d procedures: the test is not worth much", procs)
	}
}

// lowStack lets a function that calls itself too deep break the test, at trees that are no greater than they have to be.
func lowStack(t *testing.T) {
	before := debug.SetMaxStack(4 << 20)
	t.Cleanup(func() { debug.SetMaxStack(before) })
}

// No tree is too deep, and none takes more than a few steps a node: blocks and loops within one another, each with a name of the outermost one, and expressions.
func TestTreesOfAnyDepth(t *testing.T) { // P7.1
	lowStack(t)
	const high = 200000
	all := []tree.Node{{Kind: tree.Program, Kids: []int{1}}, {Kind: tree.Proc, Text: "p", Kids: []int{2, 4}}, {Kind: tree.Names, Kids: []int{3}}, {Kind: tree.Word, Text: "a"}}
	for range high {
		at := len(all)
		all = append(all, tree.Node{Kind: tree.Block, Kids: []int{at + 1}}, tree.Node{Kind: tree.If, Kids: []int{at + 2, at + 3, at + 4}}, tree.Node{Kind: tree.Var, Text: "a"}, tree.Node{Kind: tree.Number})
	}
	at := len(all)
	all = append(all, tree.Node{Kind: tree.Block, Kids: []int{at + 1}}, tree.Node{Kind: tree.Let, Text: "x", Kids: []int{at + 2}})
	for range high {
		at = len(all)
		all = append(all, tree.Node{Kind: tree.Minus, Kids: []int{at + 1, at + 2}}, tree.Node{Kind: tree.Var, Text: "a"})
	}
	all = append(all, tree.Node{Kind: tree.Var, Text: "a", At: 3})
	last := len(all) - 1
	src := []byte("0123456789")
	p, err := names.Resolve(src, tree.Tree{Nodes: all})
	if err != nil || !slices.Equal(p.Procs[0].Vars, []string{"a", "x"}) || p.Of[last] != 0 {
		t.Fatalf("%v", err)
	}
	all[last].Text = "x"
	wantErrorAt(t, src, tree.Tree{Nodes: all}, api.ErrName, 3)
	all[last].Text = "A"
	wantNoTree(t, src, tree.Tree{Nodes: all})
}

// As many statements, values and names as a tree may have.
func TestWideTrees(t *testing.T) { // P7.1
	const wide = 100000
	lets := make([]sketch, 0, wide)
	for range wide {
		lets = append(lets, sk(tree.Let, "x", 0, num(1)))
	}
	p, err := names.Resolve(nil, inProc(lets...))
	if err != nil || !slices.Equal(p.Procs[0].Vars, []string{"x"}) {
		t.Errorf("%v", err)
	}
	values := make([]sketch, 0, wide)
	words := make([]sketch, 0, wide)
	for i := range wide {
		values, words = append(values, num(1)), append(words, word(fmt.Sprintf("n%d", i)))
	}
	for e, x := range map[api.Errno]tree.Tree{
		api.ErrArity: inProc(bare(tree.Put, append([]sketch{row("t", num(1))}, values...)...)),
		api.ErrLimit: flat(whole(table("t", words...))),
	} {
		if _, err := names.Resolve(nil, x); diag.Code(err) != e {
			t.Errorf("%v, want %v", err, e)
		}
	}
	if _, err := names.Resolve(nil, flat(whole(sk(tree.Proc, "p", 0, bare(tree.Names, words...), block())))); diag.Code(err) != api.ErrLimit {
		t.Errorf("parameters: %v", err)
	}
}

// As every call: the answers hang on the source and the tree alone, whoever asks beside it.
func TestTheSameAgain(t *testing.T) {
	ask := func(src []byte, x tree.Tree) string {
		p, err := names.Resolve(src, x)
		return fmt.Sprintf("%v %v %d", p, err, names.Find(p, "p"))
	}
	srcs, trees := some(t)
	var first []string
	for i, x := range trees {
		first = append(first, ask(srcs[i], x))
	}
	done := make(chan string)
	for range 4 {
		go func() {
			for i := len(trees) - 1; i >= 0; i-- {
				if ask(srcs[i], trees[i]) != first[i] {
					done <- short(trees[i])
					return
				}
			}
			done <- ""
		}()
	}
	for range 4 {
		if x := <-done; x != "" {
			t.Errorf("another answer of %s", x)
		}
	}
}
