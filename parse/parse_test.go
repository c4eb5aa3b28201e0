package parse_test

import (
	"bytes"
	"fmt"
	"math/rand"
	"reflect"
	"slices"
	"strings"
	"testing"

	"interlock/api"
	"interlock/diag"
	"interlock/lex"
	"interlock/parse"
	"interlock/tree"
)

// short cuts what a failed test shows, and quotes it.
func short(src []byte) string {
	s := fmt.Sprintf("%q", src)
	if len(s) > 400 {
		return s[:200] + " .. " + s[len(s)-200:]
	}
	return s
}

// mustParse asks for a tree, which has to be right (P5.3).
func mustParse(t *testing.T, src []byte) tree.Tree {
	t.Helper()
	x, err := parse.Parse(src)
	if err != nil {
		t.Fatalf("Parse(%s) = %v", short(src), err)
	}
	if !tree.Right(x) {
		t.Fatalf("Parse(%s) is not right: %v", short(src), x)
	}
	return x
}

// wantError asks for that number, at that place, and for no tree beside it.
func wantError(t *testing.T, src []byte, e api.Errno, at int) {
	t.Helper()
	x, err := parse.Parse(src)
	if len(x.Nodes) != 0 {
		t.Errorf("Parse(%s) is a tree of %d nodes, beside %v", short(src), len(x.Nodes), err)
	}
	gotAt, line, col, ok := diag.Place(err)
	wantAt, wantLine, wantCol, _ := diag.Place(diag.New(src, at, e))
	if diag.Code(err) != e || !ok || gotAt != wantAt || line != wantLine || col != wantCol {
		t.Fatalf("Parse(%s) = %v at %d, want %v at %d", short(src), err, gotAt, e, at)
	}
}

// wantVerdict holds Parse against the chapter's grammar, and tells whether the source is one.
func wantVerdict(t *testing.T, src []byte) bool {
	t.Helper()
	e, at := verdict(src)
	if e == api.OK {
		mustParse(t, src)
		return true
	}
	wantError(t, src, e, at)
	return false
}

// marked takes the @ out of a source, which no token has, and tells where the token behind it begins.
func marked(src string) ([]byte, int) {
	ahead, behind, _ := strings.Cut(src, "@")
	rest := strings.TrimLeft(behind, " ")
	return []byte(ahead + behind), len(ahead) + len(behind) - len(rest)
}

// wantMarked asks for the error at the @, and for the grammar's machine to say the same.
func wantMarked(t *testing.T, e api.Errno, sources ...string) {
	t.Helper()
	for _, s := range sources {
		src, at := marked(s)
		wantError(t, src, e, at)
		if found, place := verdict(src); found != e || place != at {
			t.Errorf("the grammar says %v at %d of %s", found, place, short(src))
		}
	}
}

// wantTree holds what is parsed against a tree, node by node, with their places.
func wantTree(t *testing.T, src []byte, want tree.Tree) {
	t.Helper()
	got := mustParse(t, src)
	if !tree.Same(got, want) {
		t.Fatalf("Parse(%s) =\n%v, want\n%v", short(src), got, want)
	}
	for i, n := range got.Nodes {
		if n.At != want.Nodes[i].At {
			t.Fatalf("Parse(%s): node %d is at %d, want %d", short(src), i, n.At, want.Nodes[i].At)
		}
	}
}

const (
	head     = "proc p() { "
	emitHead = head + "emit "
)

// inBlock is a source with that statement, inEmit one with that expression.
func inBlock(stmt string) []byte { return []byte(head + stmt + " }") }
func inEmit(expr string) []byte  { return []byte(emitHead + expr + "; }") }

// everyForm has each form of the grammar at least once.
const everyForm = "table t(c, d); table u(e); proc p(a, b) single { read x = t[a].c; read y = t[1].d for update; " +
	"set t[x].c = x + y * -2; put t[1](2, a - b); delete u[(a)]; scan z = u.e; lock t shared; lock u all; " +
	"release t; release t[a]; if a < b { chop; } else { emit z; } if a == 1 { } for i = 1 to 3 { let x = i; } rollback; } proc q() { }"

// The chapter's examples.
func TestExamples(t *testing.T) { // P5.1
	src := []byte("proc p() { emit 1 - 2 - 3; }")
	if got := line(mustParse(t, src), 4, 0); got != "Emit@11(Minus@16(Minus@16(Number@16=1 Number@20=2) Number@24=3))" {
		t.Error(got)
	}
	src = []byte("proc p() { emit -a * b; }")
	if got := line(mustParse(t, src), 4, 0); got != "Emit@11(Times@16(Neg@16(Var@17:a) Var@21:b))" {
		t.Error(got)
	}
	wantError(t, []byte("proc p() { let = 1; }"), api.ErrSyntax, 15)
	wantError(t, []byte("table t() ;"), api.ErrSyntax, 8)
}

// What has no token is a program all the same, which begins at its end.
func TestNothingInIt(t *testing.T) { // P5.1
	wantTree(t, nil, tree.Tree{Nodes: []tree.Node{{Kind: tree.Program}}})
	for _, src := range []string{"", " ", "\n\t\r ", "# table", "#\n\n#a"} {
		wantTree(t, []byte(src), tree.Tree{Nodes: []tree.Node{{Kind: tree.Program, At: len(src)}}})
	}
}

func TestFormsOfPrograms(t *testing.T) { // P5.1
	for src, want := range map[string]string{
		"table t(c);":                         "Program@0(Table@0:t(Word@8:c))",
		"table t(c, d);":                      "Program@0(Table@0:t(Word@8:c Word@11:d))",
		"proc p() { }":                        "Program@0(Proc@0:p(Names@7 Block@9))",
		"proc p( ) single{}":                  "Program@0(Proc@0:p=1(Names@8 Block@16))",
		"proc p(a) { }":                       "Program@0(Proc@0:p(Names@7(Word@7:a) Block@10))",
		"proc p(a, b) single { }":             "Program@0(Proc@0:p=1(Names@7(Word@7:a Word@10:b) Block@20))",
		" table t(c);proc p(){}table u(d);":   "Program@1(Table@1:t(Word@9:c) Proc@12:p(Names@19 Block@20) Table@22:u(Word@30:d))",
		"#\nproc p(){}proc p(){chop;chop;}":   "Program@2(Proc@2:p(Names@9 Block@10) Proc@12:p(Names@19 Block@20(Chop@21 Chop@26)))",
		"table t_1(c2,c2,c2);table t_1(t_1);": "Program@0(Table@0:t_1(Word@10:c2 Word@13:c2 Word@16:c2) Table@20:t_1(Word@30:t_1))",
	} {
		if got := line(mustParse(t, []byte(src)), 0, 0); got != want {
			t.Errorf("%s: %s, want %s", src, got, want)
		}
	}
}

func TestFormsOfStatements(t *testing.T) { // P5.1
	for src, want := range map[string]string{
		"read x = t[1].c;":                  "Read@0:x(Row@9:t(Number@11=1) Word@14:c)",
		"read x = t[1].c for update;":       "Read@0:x=1(Row@9:t(Number@11=1) Word@14:c)",
		"set t[a].c = 2;":                   "Set@0(Row@4:t(Var@6:a) Word@9:c Number@13=2)",
		"put t[1](2);":                      "Put@0(Row@4:t(Number@6=1) Number@9=2)",
		"put t[1](2, a, -3);":               "Put@0(Row@4:t(Number@6=1) Number@9=2 Var@12:a Neg@15(Number@16=3))",
		"delete t[1];":                      "Delete@0(Row@7:t(Number@9=1))",
		"scan x = t.c;":                     "Scan@0:x(Word@9:t Word@11:c)",
		"lock t shared;":                    "Lock@0(Word@5:t)",
		"lock t all;":                       "Lock@0=1(Word@5:t)",
		"release t;":                        "Release@0(Word@8:t)",
		"release t[1];":                     "Release@0(Row@8:t(Number@10=1))",
		"release t[(a + 1)];":               "Release@0(Row@8:t(Plus@11(Var@11:a Number@15=1)))",
		"if 1 < a { }":                      "If@0(Number@3=1 Var@7:a Block@9)",
		"if (1) == (a) {}":                  "If@0=1(Number@4=1 Var@11:a Block@14)",
		"if 1 == a { } else { chop; }":      "If@0=1(Number@3=1 Var@8:a Block@10 Block@19(Chop@21))",
		"if 1 < a { chop; } else { }":       "If@0(Number@3=1 Var@7:a Block@9(Chop@11) Block@24)",
		"for i = 1 to 3 { }":                "For@0:i(Number@8=1 Number@13=3 Block@15)",
		"for i = 3 to 1{ emit i; chop; }":   "For@0:i(Number@8=3 Number@13=1 Block@14(Emit@16(Var@21:i) Chop@24))",
		"let x = 1;":                        "Let@0:x(Number@8=1)",
		"emit 1;":                           "Emit@0(Number@5=1)",
		"rollback;":                         "Rollback@0",
		"chop;":                             "Chop@0",
		"if 1<2{if 3<4{}}":                  "If@0(Number@3=1 Number@5=2 Block@6(If@7(Number@10=3 Number@12=4 Block@13)))",
		"if 1<2{if 3<4{}else{}}":            "If@0(Number@3=1 Number@5=2 Block@6(If@7(Number@10=3 Number@12=4 Block@13 Block@19)))",
		"if 1<2{if 3<4{}}else{}":            "If@0(Number@3=1 Number@5=2 Block@6(If@7(Number@10=3 Number@12=4 Block@13)) Block@20)",
		"for i = 1 to 2 {for j=3to 4{}}":    "For@0:i(Number@8=1 Number@13=2 Block@15(For@16:j(Number@22=3 Number@26=4 Block@27)))",
		"set t[a * 2].c = (b) - (c);":       "Set@0(Row@4:t(Times@6(Var@6:a Number@10=2)) Word@13:c Minus@18(Var@18:b Var@24:c))",
		"put t[-1]((a), (b + c), (d) * 2);": "Put@0(Row@4:t(Neg@6(Number@7=1)) Var@11:a Plus@16(Var@16:b Var@20:c) Times@25(Var@25:d Number@30=2))",
	} {
		x := mustParse(t, inBlock(src))
		if got := line(x, 4, len(head)); got != want || len(x.Nodes[3].Kids) != 1 {
			t.Errorf("%s: %s, want %s", src, got, want)
		}
	}
}

func TestFormsOfExpressions(t *testing.T) { // P5.1
	for src, want := range map[string]string{
		"0":              "Number@0=0",
		"007":            "Number@0=7",
		"2147483647":     "Number@0=2147483647",
		"a":              "Var@0:a",
		"(1)":            "Number@1=1",
		"((a))":          "Var@2:a",
		"a-1":            "Minus@0(Var@0:a Number@2=1)",
		"(1 + 2)":        "Plus@1(Number@1=1 Number@5=2)",
		"(a) + b":        "Plus@1(Var@1:a Var@6:b)",
		"((a + b)) * c":  "Times@2(Plus@2(Var@2:a Var@6:b) Var@12:c)",
		"((a) * b) * c":  "Times@2(Times@2(Var@2:a Var@7:b) Var@12:c)",
		"a * (b)":        "Times@0(Var@0:a Var@5:b)",
		"-(a)":           "Neg@0(Var@2:a)",
		"(-a) - b":       "Minus@1(Neg@1(Var@2:a) Var@7:b)",
		"- -1":           "Neg@0(Neg@2(Number@3=1))",
		"-(1 - (2))":     "Neg@0(Minus@2(Number@2=1 Number@7=2))",
		"(((1) - 2)) -3": "Minus@3(Minus@3(Number@3=1 Number@8=2) Number@13=3)",
	} {
		if got := line(mustParse(t, inEmit(src)), 5, len(emitHead)); got != want {
			t.Errorf("%s: %s, want %s", src, got, want)
		}
	}
}

func TestSequences(t *testing.T) { // P5.1
	for src, want := range map[string]string{
		"1 - 2 - 3":               "((1-2)-3)",
		"1 + 2 - 3 + 4":           "(((1+2)-3)+4)",
		"1 - 2 + 3 - 4":           "(((1-2)+3)-4)",
		"1 * 2 * 3 * 4":           "(((1*2)*3)*4)",
		"1 - (2 - 3)":             "(1-(2-3))",
		"1 - (2 - (3 - 4))":       "(1-(2-(3-4)))",
		"1 * (2 * 3)":             "(1*(2*3))",
		"1 + 2 * 3":               "(1+(2*3))",
		"1 * 2 + 3":               "((1*2)+3)",
		"1 * 2 - 3 * 4 + 5 * 6":   "(((1*2)-(3*4))+(5*6))",
		"1 - 2 * 3 * 4 - 5":       "((1-((2*3)*4))-5)",
		"(1 + 2) * 3":             "((1+2)*3)",
		"1 * (2 + 3) * 4":         "((1*(2+3))*4)",
		"(1 - 2) - (3 - 4)":       "((1-2)-(3-4))",
		"-1 * 2":                  "((-1)*2)",
		"-1 - 2":                  "((-1)-2)",
		"1 - -2":                  "(1-(-2))",
		"1 - - - 2":               "(1-(-(-2)))",
		"1--2":                    "(1-(-2))",
		"--1":                     "(-(-1))",
		"1 * -2 * 3":              "((1*(-2))*3)",
		"1 + -2 * -3 - 4":         "((1+((-2)*(-3)))-4)",
		"-(1 + 2) * 3":            "((-(1+2))*3)",
		"-(1 * 2)":                "(-(1*2))",
		"-(-(1) - 2)":             "(-((-1)-2))",
		"--a*--b":                 "((-(-a))*(-(-b)))",
		"((1)-(2-3))*-(a+b)":      "((1-(2-3))*(-(a+b)))",
		"(1 + 2) - (3 + 4) * 5":   "((1+2)-((3+4)*5))",
		"1 + (2 * (3 - 4)) * 5":   "(1+((2*(3-4))*5))",
		"a + b + c - d - e + f*g": "(((((a+b)+c)-d)-e)+(f*g))",
	} {
		if got := bracketed(mustParse(t, inEmit(src)), 5); got != want {
			t.Errorf("%s: %s, want %s", src, got, want)
		}
	}
}

// No name is kept for words of the grammar.
func TestWordsOfTheGrammarAsNames(t *testing.T) { // P5.1
	for _, w := range append(chapter.words(), "program", "name", "number", "end", "true", "a") {
		src := "table W(W, W); proc W(W, W) single { read W = W[W].W; read W = W[W].W for update; set W[W].W = W + W * -W; put W[W](W, W); " +
			"delete W[W]; scan W = W.W; lock W shared; lock W all; release W; release W[W]; if W < W { let W = W; } else { emit W; } " +
			"if W == (W) { } for W = 1 to 2 { } } proc W() { emit W; }"
		got := mustParse(t, []byte(strings.ReplaceAll(src, "W", w)))
		other := mustParse(t, []byte(strings.ReplaceAll(src, "W", "x")))
		for i, n := range got.Nodes {
			if n.Text == w {
				got.Nodes[i].Text = "x"
			}
		}
		if !tree.Same(got, other) {
			t.Errorf("%s is not a name as others are", w)
		}
	}
	for src, want := range map[string]string{
		"read for = for[for].for for update;": "Read@0:for=1(Row@11:for(Var@15:for) Word@20:for)",
		"read for = for[for].for;":            "Read@0:for(Row@11:for(Var@15:for) Word@20:for)",
		"lock all all;":                       "Lock@0=1(Word@5:all)",
		"lock shared shared;":                 "Lock@0(Word@5:shared)",
		"lock all shared;":                    "Lock@0(Word@5:all)",
		"release release;":                    "Release@0(Word@8:release)",
		"for to = 1 to 2 {}":                  "For@0:to(Number@9=1 Number@14=2 Block@16)",
		"if if < else {} else {}":             "If@0(Var@3:if Var@8:else Block@13 Block@21)",
	} {
		if got := line(mustParse(t, inBlock(src)), 4, len(head)); got != want {
			t.Errorf("%s: %s, want %s", src, got, want)
		}
	}
	if got := line(mustParse(t, []byte("proc single(single) single {}")), 0, 0); got != "Program@0(Proc@0:single=1(Names@12(Word@12:single) Block@27))" {
		t.Error(got)
	}
}

// drawer draws as many trees as are wanted; every other one with the grammar's words as names.
func drawer(seed int64, count int, give func(r *rand.Rand, s *sketch)) {
	r := rand.New(rand.NewSource(seed))
	names := []string{"a", "b", "t", "x1", "z_", "a9_"}
	for i := range count {
		p := pencil{r, names}
		if i%2 == 1 {
			p.names = chapter.words()
		}
		give(r, p.program(r.Intn(5), 1+r.Intn(5)))
	}
}

// P5.1, P5.3: whatever tree is written, in whatever way: it is parsed, and blanks and needless brackets change nothing but places.
func TestManyTrees(t *testing.T) {
	t.Parallel()
	kinds := map[uint8]int{}
	drawer(5, 1200, func(r *rand.Rand, s *sketch) {
		src := sparing().program(s)
		wantTree(t, src, s.tree())
		for range 3 {
			src = lavish(r).program(s)
			wantTree(t, src, s.tree())
		}
		if e, at := verdict(src); e != api.OK {
			t.Fatalf("the grammar says %v at %d of %s", e, at, short(src))
		}
		for _, n := range s.tree().Nodes {
			kinds[n.Kind]++
		}
	})
	for kind := tree.Program; kind <= tree.Neg; kind++ {
		if kinds[kind] < 100 {
			t.Errorf("%s was drawn %d times: the test is not worth much", kindNames[kind], kinds[kind])
		}
	}
}

// P5.3: whatever stands between the tokens, each node is where its token has come to.
func TestBlanksBetweenTokens(t *testing.T) {
	src := []byte(everyForm)
	want := mustParse(t, src)
	tokens, _ := lex.Lex(src)
	for _, filler := range []string{" ", "\t", "\n", "\r", "#\n", "# proc p( {\n", " \n\n#a#\r\n\t"} {
		var spread []byte
		places := map[int]int{}
		for _, token := range tokens {
			spread = append(spread, filler...)
			places[token.At] = len(spread)
			spread = append(spread, token.Text...)
		}
		moved := tree.Tree{Nodes: slices.Clone(want.Nodes)}
		for i := range moved.Nodes {
			moved.Nodes[i].At = places[moved.Nodes[i].At]
		}
		wantTree(t, spread, moved)
		wantTree(t, append(spread, "# the end"...), moved)
	}
}

// Errors, form by form, as a reader finds them.
func TestErrors(t *testing.T) { // P5.1
	wantMarked(t, api.ErrSyntax,
		"@x", "@1", "@;", "@{", "@single", "@chop;", "table t(c);@;", "proc p() {}@}", "proc p() {} @chop;",
		"table@", "table @(c);", "table @1(c);", "table t@;", "table t(@);", "table t(@", "table t(@1", "table t(@1);", "table t(c,@);", "table t(c@ d);", "table t(c)@", "table t(c) @proc p() {}", "table t(c@;", "table t@[c];", "table t(c) @single;",
		"proc@", "proc @() {}", "proc p@ {}", "proc p(@1) {}", "proc p(@,) {}", "proc p(a,@) {}", "proc p(a@ b) {}", "proc p()@;", "proc p() single @single {}", "proc p() single@;", "proc p() @double {}", "proc p() {@", "proc p() { } @else { }", "proc p(@{}", "proc p() @(a) {}",
		head+"@x;", head+"@;", head+"@1;", head+"@{ }", head+"@table t(c);", head+"@proc q() {}", head+"@else { }", head+"@single", head+"@(1);", head+"@for1 = 1 to 2 { }",
		head+"read @= t[1].c;", head+"read x@ t[1].c;", head+"read x @== t[1].c;", head+"read x = t@.c;", head+"read x = @1[1].c;", head+"read x = t[@].c;", head+"read x = t[1@.c;", head+"read x = t[1]@;", head+"read x = t[1].@;", head+"read x = t[1].@1;", head+"read x = t[1].c @shared;", head+"read x = t[1].c for@;", head+"read x = t[1].c @update;", head+"read x = t[1].c for update@ }", head+"read x = t[1@, 2].c;",
		head+"set t@.c = 1;", head+"set t[1]@ = 1;", head+"set t[1].c@;", head+"set t[1].c @== 1;", head+"set t[1].c =@;", head+"set @[1].c = 1;", head+"set t[1].c = 1@ }", head+"set t[1].c = 1@, 2;",
		head+"put t[1]@;", head+"put t[1](@);", head+"put t[1](1,@);", head+"put t[1](1@;", head+"put t[1](1)@ }", head+"put t@(1);", head+"put t[1]@.c(1);", head+"put t[1](1@ 2);", head+"put t[1](1)@(2);",
		head+"delete@;", head+"delete t@;", head+"delete t[1]@.c;", head+"delete t[1]@ }",
		head+"scan @= t.c;", head+"scan x@;", head+"scan x = t@[1].c;", head+"scan x = t@;", head+"scan x = t.@;", head+"scan x = t.c@ for update;", head+"scan x = @1.c;",
		head+"lock t@;", head+"lock@;", head+"lock t @every;", head+"lock shared@;", head+"lock t all@ shared;", head+"lock t@[1] all;", head+"lock t all@ }",
		head+"release@;", head+"release t@.c;", head+"release t[@];", head+"release t[1@;", head+"release t[1]@.c;", head+"release t@ }", head+"release @1;", head+"release t[1]@[1];",
		head+"if@ { }", head+"if 1@ { }", head+"if 1 @= 2 { }", head+"if 1 <@ { }", head+"if 1 < 2@;", head+"if 1 < 2 @< 3 { }", head+"if 1 < 2 { }@;", head+"if 1 < 2 { } else@;", head+"if 1 < 2 { } else @if 1 < 2 { }", head+"if 1 < 2 { } else { } @else { }", head+"if (1 @< 2) { }", head+"if 1 <@= 2 { }", head+"if 1 ==@= 2 { }",
		head+"for@;", head+"for i@ 1 to 2 { }", head+"for i =@ to 2 { }", head+"for i = @a to 2 { }", head+"for i = @-1 to 2 { }", head+"for i = @(1) to 2 { }", head+"for i = 1@ { }", head+"for i = 1 @+ 1 to 2 { }", head+"for i = 1 to@ { }", head+"for i = 1 to @a { }", head+"for i = 1 to 2@;", head+"for i = 1 to 2 @+ 1 { }", head+"for i = 1 to 2 { }@;", head+"for @1 = 1 to 2 { }",
		head+"let@;", head+"let x@;", head+"let x =@;", head+"let x = 1@ }", head+"let x@[1] = 1;", head+"let x @== 1;", head+"let x = y @= 1;", head+"let @1 = 1;",
		head+"emit@;", head+"emit 1@ }", head+"emit 1@, 2;", head+"emit @{ };", head+"emit t@[1];", head+"emit t@.c;", head+"emit @+1;", head+"emit @*1;", head+"emit 1 +@;", head+"emit 1 -@;", head+"emit 1 *@;", head+"emit 1 * @* 2;", head+"emit 1 + @+ 2;", head+"emit 1@ 2;", head+"emit a@ b;", head+"emit a@(1);", head+"emit (@);", head+"emit (1@;", head+"emit 1@);", head+"emit (1@, 2);", head+"emit -@;", head+"emit - -@)", head+"emit 1 @< 2;", head+"emit 1 @== 2;", head+"emit ((1)@;", head+"emit 1@a;", head+"emit (@",
		head+"rollback@ }", head+"rollback @1;", head+"chop@ }", head+"chop @t;", head+"chop;@;", head+"chop; } @}", head+"chop; @",
	)
}

// spread writes tokens with a blank behind each.
func spread(texts []string) []byte { return []byte(strings.Join(texts, " ") + " ") }

func textsOf(src string) []string {
	tokens, _ := lex.Lex([]byte(src))
	var texts []string
	for _, token := range tokens[:len(tokens)-1] {
		texts = append(texts, token.Text)
	}
	return texts
}

// vocabulary has each token that the grammar names, and one of each kind that is none of these.
func vocabulary() []string {
	return append(append(chapter.words(), chapter.marks()...), "a", "1")
}

func TestEachTokenLeftOutOrAnotherOneInItsPlace(t *testing.T) { // P5.1
	t.Parallel()
	texts := textsOf(everyForm)
	if !wantVerdict(t, spread(texts)) {
		t.Fatal("what is to be spoilt is spoilt already")
	}
	fine, wrong := 0, 0
	try := func(texts []string) {
		if wantVerdict(t, spread(texts)) {
			fine++
		} else {
			wrong++
		}
	}
	for i := range texts {
		try(slices.Delete(slices.Clone(texts), i, i+1))
		if i > 0 {
			swapped := slices.Clone(texts)
			swapped[i-1], swapped[i] = texts[i], texts[i-1]
			try(swapped)
		}
		for _, text := range vocabulary() {
			other := slices.Clone(texts)
			other[i] = text
			try(other)
			try(slices.Insert(slices.Clone(texts), i, text))
		}
	}
	if fine < 500 || wrong < 5000 {
		t.Errorf("%d fine, %d wrong: the test is not worth much", fine, wrong)
	}
}

// Every short row of tokens, where a program, a procedure, a block and an expression begin, and behind a row's table.
func TestEveryShortRow(t *testing.T) { // P5.1
	t.Parallel()
	all := vocabulary()
	for _, beginning := range []string{"", "proc p(", head, emitHead, emitHead + "(a ", head + "release t ", head + "if 1 < 2 { } ", head + "read x = t[1].c "} {
		ahead := textsOf(beginning)
		for _, a := range all {
			wantVerdict(t, spread(append(slices.Clone(ahead), a)))
			for _, b := range all {
				wantVerdict(t, spread(append(slices.Clone(ahead), a, b)))
				if beginning == "" || beginning == emitHead {
					continue
				}
				for _, c := range []string{"a", "1", "(", "-", "{", "}", "=", ";", "."} {
					wantVerdict(t, spread(append(slices.Clone(ahead), a, b, c)))
				}
			}
		}
	}
}

// A source that is cut off: what is missing is missing at its end, if its beginning is not a program.
func TestCutBehindEachToken(t *testing.T) { // P5.1
	src := []byte(everyForm)
	tokens, _ := lex.Lex(src)
	parts := 0
	for _, token := range tokens {
		cut := src[:token.End]
		if e, _ := verdict(cut); e == api.OK {
			mustParse(t, cut)
			parts++
			continue
		}
		wantError(t, cut, api.ErrSyntax, len(cut))
		wantError(t, append(slices.Clone(cut), " \n # and no more"...), api.ErrSyntax, len(cut)+16)
	}
	if parts != 5 {
		t.Errorf("%d beginnings are programs: two tables, two procedures and the whole with its end are", parts)
	}
	for i := range src {
		wantVerdict(t, src[:i])
		wantVerdict(t, src[i:])
	}
}

// The lexer's errors come first, wherever they are.
func TestLexersErrors(t *testing.T) { // P5.1
	long := strings.Repeat(" ", 65537)
	for _, src := range []string{
		"$", "proc p() { emit $; }", "x $", "; ; ; $", "proc p() {} A", "table t(_c);", "proc p() { emit 1 / 2; }", "\x00", "\xff", "x é",
		"2147483648", "proc p() { emit 2147483648; }", "x 2147483648", "proc p() { for i = 1 to 99999999999999999999 { } }",
		"x $ 2147483648", "x 2147483648 $", "proc p() { emit " + strings.Repeat("(", 70) + "$",
		long, long + "$", "x" + long, strings.Repeat("(", 65537), "table t(c);" + long,
	} {
		_, want := lex.Lex([]byte(src))
		at, _, _, _ := diag.Place(want)
		wantError(t, []byte(src), diag.Code(want), at)
		if _, err := parse.Parse([]byte(src)); err == nil || want == nil || err.Error() != want.Error() {
			t.Errorf("Parse(%s) tells %v, Lex %v", short([]byte(src)), err, want)
		}
	}
	mustParse(t, []byte("table t(c); # $ 2147483648 A"))
}

// nest puts n times one text ahead of what is within, and the other one behind it.
func nest(n int, ahead, within, behind string) string {
	return strings.Repeat(ahead, n) + within + strings.Repeat(behind, n)
}

// deepBlocks is a source in which what is within stands within so many blocks.
func deepBlocks(n int, within string) string {
	return head + nest(n-1, "if 1 < 2 { ", within, " }") + " }"
}

func TestAsDeepAsMayBe(t *testing.T) { // P5.1
	for _, src := range []string{
		deepBlocks(64, ""), deepBlocks(64, "chop; chop;"), deepBlocks(64, "emit a + b - 1 * 2;"), deepBlocks(64, "lock t all; scan x = t.c; release t;"),
		head + nest(63, "for i = 1 to 2 {", "", "}") + "}",
		head + nest(63, "if 1 < 2 { } else {", "", "}") + "}",
		deepBlocks(63, "delete t[1]; set t[a].c = 1; read x = t[1].c for update; put t[1](2, 3); release t[1];"),
		deepBlocks(63, "emit (1); emit -1; emit 1 - -1 * (2) + -a; if (1) < -1 { } if 1 < 2 { } else { } for i = 1 to 2 { }"),
		deepBlocks(63, "put t[1]((1), -1, (2) * -a);"),
		deepBlocks(62, "delete t[(1)]; release t[-1]; set t[-a].c = -(1); put t[1](-(1));"),
		head + "emit " + nest(63, "(", "1", ")") + "; }",
		head + "emit " + nest(63, "-", "1", "") + "; }",
		head + "emit " + nest(31, "-(", "-1", ")") + "; }",
		head + "emit " + nest(63, "1 - (", "1", ") * 2") + "; }",
		head + "emit " + nest(31, "1 - -(", "2 * -1", ")") + "; }",
		head + "delete t[" + nest(62, "(", "1", ")") + "]; }",
		head + "put t[1](1, " + nest(63, "(", "1", ")") + "); }",
	} {
		mustParse(t, []byte(src))
		if e, at := verdict([]byte(src)); e != api.OK {
			t.Errorf("the grammar says %v at %d of %s", e, at, short([]byte(src)))
		}
	}
}

func TestOneDeeper(t *testing.T) { // P5.1
	wantMarked(t, api.ErrDeep,
		deepBlocks(64, "if 1 < 2 @{ }"), deepBlocks(64, "for i = 1 to 2 @{ }"), deepBlocks(64, "chop; if 1 < 2 @{"), head+strings.Repeat("if 1 < 2 { ", 63)+"if 1 < 2 @{",
		deepBlocks(63, "if 1 < 2 { if 1 < 2 @{ } }"), deepBlocks(63, "if 1 < 2 { } else { if 1 < 2 @{ } }"), deepBlocks(63, "if 1 < 2 { } else { for i = 1 to 2 @{ } }"),
		head+nest(63, "for i = 1 to 2 {", "for i = 1 to 2 @{}", "}")+"}",
		deepBlocks(64, "delete t@[1];"), deepBlocks(64, "set t@[1].c = 1;"), deepBlocks(64, "read x = t@[1].c;"), deepBlocks(64, "put t@[1](2);"), deepBlocks(64, "release t@[1];"),
		deepBlocks(64, "emit @(1);"), deepBlocks(64, "emit @-1;"), deepBlocks(64, "emit 1 - @-1;"), deepBlocks(64, "emit 1 * @(2);"), deepBlocks(64, "let x = a + @-b;"), deepBlocks(64, "if @-1 < 2 { }"), deepBlocks(64, "if 1 < @(2) { }"),
		deepBlocks(63, "delete t[@(1)];"), deepBlocks(63, "delete t[@-1];"), deepBlocks(63, "release t[@-1];"), deepBlocks(63, "emit -@-1;"), deepBlocks(63, "emit -@(1);"), deepBlocks(63, "emit (@-1);"), deepBlocks(63, "emit (1 - @(1));"),
		deepBlocks(63, "put t[1](2, (@(1)));"), deepBlocks(63, "put t[1]((1), -@-1);"), deepBlocks(63, "put t[@(1)](1);"),
		head+"emit "+nest(63, "(", "@(1)", ")")+"; }",
		head+"emit "+nest(63, "-", "@-1", "")+"; }",
		head+"emit "+nest(63, "-", "@(1)", "")+"; }",
		head+"emit "+nest(31, "-(", "-@-1", ")")+"; }",
		head+"emit "+nest(31, "-(", "(@-1)", ")")+"; }",
		head+"emit "+nest(31, "1 - -(", "2 * -@-1", ")")+"; }",
		head+"delete t["+nest(62, "(", "@(1)", ")")+"]; }",
		head+"put t[1](1, "+nest(63, "(", "@(1)", ")")+"); }",
	)
}

// What has ended does not count any more, and what is no bracket of a row or a factor never does.
func TestWhatIsNotDeep(t *testing.T) { // P5.1
	brackets, signs := nest(63, "(", "1", ")"), nest(63, "-", "1", "")
	for _, src := range []string{
		head + strings.Repeat("emit "+brackets+"; ", 5) + "}",
		head + "emit " + brackets + strings.Repeat(" + "+brackets+" * "+signs+" - "+signs, 5) + "; }",
		head + "put t[" + nest(62, "-", "1", "") + "](" + brackets + ", " + signs + ", " + brackets + "); }",
		head + "if " + brackets + " < " + signs + " { emit " + nest(62, "(", "1", ")") + "; } else { emit " + nest(62, "-", "1", "") + "; } emit " + signs + "; }",
		head + strings.Repeat("if 1 < 2 { } else { } for i = 1 to 2 { } ", 100) + "}",
		deepBlocks(63, strings.Repeat("if 1 < 2 { } else { } delete t[1]; emit -1 - (2); ", 100)),
		deepBlocks(64, "emit 1"+strings.Repeat(" - 1 * 1", 1000)+";"),
		strings.Repeat("proc p() { } table t(c); ", 200),
		head + "emit 1" + strings.Repeat(" * -1", 200) + "; }",
		head + "emit -1" + strings.Repeat(" - -1", 200) + "; }",
		head + "emit (1)" + strings.Repeat(" - (1)", 200) + "; }",
	} {
		mustParse(t, []byte(src))
		if e, at := verdict([]byte(src)); e != api.OK {
			t.Errorf("the grammar says %v at %d of %s", e, at, short([]byte(src)))
		}
	}
}

func TestWhichErrorComesFirst(t *testing.T) { // P5.1
	deep := nest(70, "(", "1", ")")
	wantMarked(t, api.ErrSyntax,
		// Ahead of what is too deep.
		"@x "+emitHead+deep+"; }", head+"@; emit "+deep+"; }", head+"emit 1 @1 + "+deep+"; }", head+"emit "+nest(63, "(", "@) (", ")")+"; }",
		// At the token that could be both: what may not begin there at all is not too deep.
		deepBlocks(64, "@{ }"), deepBlocks(64, "@( 1"), deepBlocks(64, "@-1;"), deepBlocks(64, "@[1];"), deepBlocks(64, "emit @{ }"), deepBlocks(64, "emit a @[1];"), deepBlocks(64, "emit a @(1);"), deepBlocks(64, "emit @[1];"),
		deepBlocks(64, "lock t @[1] all;"), deepBlocks(64, "let x @- 1;"), deepBlocks(64, "let x @(1);"), deepBlocks(64, "for i = @-1 to 2 { }"), deepBlocks(64, "for i = @(1) to 2 { }"), deepBlocks(64, "if 1 @{ }"), deepBlocks(64, "if @{ }"), deepBlocks(64, "delete @[1];"), deepBlocks(64, "delete t @{ }"), deepBlocks(64, "delete t @(1);"), deepBlocks(64, "scan x = t @[1];"), deepBlocks(64, "chop @{"), deepBlocks(64, "emit 1 - 1 @(2);"),
		deepBlocks(63, "put t[1] @[1];"), deepBlocks(63, "put t[1] @-1;"), deepBlocks(63, "emit (1 @(2));"), deepBlocks(63, "emit -1 @{ };"),
		// Behind what is as deep as may be.
		deepBlocks(64, "emit 1 @}"), head+"emit "+nest(63, "(", "1 @1", ")")+"; }", head+"emit "+nest(63, "-", "@;", "")+" }", head+"emit "+nest(63, "(", "1", ")")+"@); }",
	)
	wantMarked(t, api.ErrDeep,
		// Ahead of what is no source.
		head+"emit "+nest(63, "(", "@(x x", ")")+"; }", head+"emit "+nest(63, "-", "@-;", ""), deepBlocks(64, "delete t@[;"), deepBlocks(64, "if 1 < 2 @{ x;"), deepBlocks(64, "emit 1 - @-;"), head+"emit "+strings.Repeat("(", 63)+"@"+strings.Repeat("(", 63), head+strings.Repeat("if 1 < 2 { ", 63)+"emit @-",
	)
}

// Blocks, brackets and signs in any mix, around the limit, held against the chapter's grammar.
func TestAnyMixOfWhatIsDeep(t *testing.T) { // P5.1
	t.Parallel()
	r := rand.New(rand.NewSource(55))
	openers := []string{"if 1 < 2 {", "for i = 1 to 2 {", "if -1 < (2) { } else {", "if 1 < 2 { chop; } else {"}
	counts := map[api.Errno]int{}
	for range 1000 {
		blocks := 1 + r.Intn(64)
		var b strings.Builder
		b.WriteString(head)
		for range blocks - 1 {
			b.WriteString(openers[r.Intn(len(openers))])
		}
		b.WriteString([]string{"emit ", "delete t[", "put t[1](", "release t[", "let x = 1 - ", "if 1 + "}[r.Intn(6)])
		for range max(0, (64-blocks)*2/3+r.Intn(6)-2) {
			b.WriteString([]string{"(", "-", "-(", "(a * ", "(1 - -", "(-a - 1 * -"}[r.Intn(6)])
		}
		b.WriteString([]string{"a", "1 - 1", "(1)", "-1", ";", "t[", "{", "a *"}[r.Intn(8)])
		e, at := verdict([]byte(b.String()))
		counts[e]++
		wantError(t, []byte(b.String()), e, at)
	}
	if counts[api.ErrSyntax] < 200 || counts[api.ErrDeep] < 200 {
		t.Errorf("%v: the test is not worth much", counts)
	}
}

// longest fills a source of that beginning and end, up to MaxText bytes, with as many pieces as there is room for, and then with blanks.
func longest(beginning, piece, end string) []byte {
	room := 65536 - len(beginning) - len(end)
	s := beginning + strings.Repeat(piece, room/len(piece)) + end
	return []byte(s + strings.Repeat(" ", 65536-len(s)))
}

func TestAsLongAsMayBe(t *testing.T) { // P5.1
	t.Parallel()
	for _, c := range []struct {
		src   []byte
		nodes int // those of the shortest such source, and how many come with each piece
		more  int
		piece string
	}{
		{longest("proc p(){emit 1", "-1", ";}"), 6, 2, "-1"},
		{longest("proc p(){emit 1", "*a", ";}"), 6, 2, "*a"},
		{longest("proc p(){emit 1", "+-(1)", ";}"), 6, 3, "+-(1)"},
		{longest("proc p(){emit 1", "+2*3", ";}"), 6, 4, "+2*3"},
		{longest("proc p(){", "chop;", "}"), 4, 1, "chop;"},
		{longest("proc p(){", "if 1<2{}", "}"), 4, 4, "if 1<2{}"},
		{longest("table t(a", ",b", ");"), 3, 1, ",b"},
		{longest("proc p(a", ",b", "){}"), 5, 1, ",b"},
		{longest("proc p(){put t[1](1", ",1", ");}"), 8, 1, ",1"},
		{longest("", "table t(c);", ""), 1, 2, "table t(c);"},
		{longest("", "proc p(){}", ""), 1, 3, "proc p(){}"},
		{longest("table t", "x", "(c);"), 3, 0, "x"},
		{longest("proc p(){emit ", "0", "7;}"), 6, 0, "0"},
		{longest("", "\n", ""), 1, 0, "\n"},
	} {
		if len(c.src) != 65536 {
			t.Fatalf("%d bytes", len(c.src))
		}
		pieces := strings.Count(string(c.src), c.piece)
		if x := mustParse(t, c.src); len(x.Nodes) != c.nodes+pieces*c.more {
			t.Errorf("%s: %d nodes, want %d and %d times %d", short(c.src), len(x.Nodes), c.nodes, pieces, c.more)
		}
		wantError(t, append(slices.Clone(c.src), ' '), api.ErrLimit, 0)
		wantError(t, append(slices.Clone(c.src[:65535]), '.'), api.ErrSyntax, 65535)
	}
	for _, src := range [][]byte{longest("proc p(){emit 1", "+1", ""), longest("", "table t(c);", "table"), longest("proc p(){", "chop;", "")} {
		wantError(t, src, api.ErrSyntax, 65536)
	}
	if x := mustParse(t, longest("proc p(){emit 1", "+1", ";}")); tree.Deep(x) < 32000 {
		t.Errorf("a long sum is %d deep", tree.Deep(x))
	}
	wantError(t, longest("proc p(){emit ", "-", "1;}"), api.ErrDeep, 14+63)
	wantError(t, longest("", "{", ""), api.ErrSyntax, 0)
}

// Soups of tokens, held against the chapter's grammar.
func TestSoups(t *testing.T) { // P5.1
	t.Parallel()
	r := rand.New(rand.NewSource(56))
	all := vocabulary()
	for range 20000 {
		texts := textsOf([]string{"", head, emitHead, "proc p(a) {", "table t(a"}[r.Intn(5)])
		for range r.Intn(12) {
			texts = append(texts, all[r.Intn(len(all))])
		}
		wantVerdict(t, spread(texts))
	}
}

// P5.3: up to an error's token a source can be gone on with.
func TestBeginningsGoOn(t *testing.T) {
	t.Parallel()
	texts := textsOf(everyForm)
	all := vocabulary()
	r := rand.New(rand.NewSource(57))
	found := 0
	for range 4000 {
		spoilt := slices.Clone(texts)
		spoilt[r.Intn(len(spoilt))] = all[r.Intn(len(all))]
		src := spread(spoilt)
		_, err := parse.Parse(src)
		if err == nil {
			continue
		}
		found++
		at, _, _, _ := diag.Place(err)
		beginning := slices.Clone(src[:at])
		tokens, err := lex.Lex(beginning)
		if err != nil {
			t.Fatal(err)
		}
		more, ok := ending(tokens[:len(tokens)-1])
		if !ok {
			t.Fatalf("nothing goes on behind %s", short(beginning))
		}
		mustParse(t, append(beginning, strings.Join(more, " ")...))
	}
	if found < 2000 {
		t.Errorf("%d were spoilt: the test is not worth much", found)
	}
}

// P5.1: an error tells its line and column, too.
func TestErrorsTellLines(t *testing.T) {
	_, err := parse.Parse([]byte("proc p() {\n  emit 1\n}"))
	if err == nil || err.Error() != "line 3, column 1: interlock: error 50" {
		t.Errorf("%v", err)
	}
	_, err = parse.Parse([]byte("proc p() {\n emit " + strings.Repeat("(", 64)))
	if err == nil || err.Error() != "line 2, column 70: interlock: error 51" {
		t.Errorf("%v", err)
	}
}

// sources are some of all sorts, fine and wrong.
func sources() [][]byte {
	all := [][]byte{nil, {}, []byte(everyForm), []byte(everyForm[:200]), []byte("x"), []byte("$"), []byte("2147483648"), inEmit(strings.Repeat("(", 99)), bytes.Repeat([]byte(" "), 65537), longest("proc p(){emit 1", "-1", ";}")}
	drawer(58, 50, func(r *rand.Rand, s *sketch) { all = append(all, lavish(r).program(s)) })
	return all
}

// P5.2: the bytes are the same as before, those behind the source's end in its memory, too.
func TestTheSourceIsOnlyRead(t *testing.T) {
	for _, src := range sources() {
		room := append(slices.Clone(src), "; } proc q() { emit 1; }"...)
		before := slices.Clone(room)
		_, err := parse.Parse(room[:len(src)])
		if !bytes.Equal(room, before) {
			t.Fatalf("Parse(%s) has written", short(src))
		}
		// What lies behind is not asked either.
		if _, other := parse.Parse(slices.Clip(slices.Clone(src))); diag.Code(err) != diag.Code(other) {
			t.Fatalf("Parse(%s) = %v, and %v", short(src), err, other)
		}
	}
}

// copied is a tree with memory of its own.
func copied(x tree.Tree) tree.Tree {
	y := tree.Tree{Nodes: slices.Clone(x.Nodes)}
	for i, n := range y.Nodes {
		y.Nodes[i].Kids = slices.Clone(n.Kids)
		y.Nodes[i].Text = strings.Clone(n.Text)
	}
	return y
}

// P5.2: what is answered is shared with nothing: not with the source, nor another answer, nor within itself.
func TestTheAnswerIsNewMemory(t *testing.T) {
	for _, src := range sources() {
		room := slices.Clone(src)
		x, err := parse.Parse(room)
		if err != nil {
			continue
		}
		want := copied(x)
		for i := range room {
			room[i] = 'z'
		}
		if !reflect.DeepEqual(x, want) {
			t.Fatalf("Parse(%s) has the source's memory", short(src))
		}
		for _, n := range x.Nodes {
			behind := n.Kids[len(n.Kids):cap(n.Kids)]
			for i := range behind {
				behind[i] = -7
			}
		}
		if !reflect.DeepEqual(x, want) {
			t.Fatalf("Parse(%s): two lists of kids share memory", short(src))
		}
		other := mustParse(t, src)
		for i := range x.Nodes {
			for k := range x.Nodes[i].Kids {
				x.Nodes[i].Kids[k] = -8
			}
			x.Nodes[i] = tree.Node{}
		}
		if !reflect.DeepEqual(other, want) || !reflect.DeepEqual(mustParse(t, src), want) {
			t.Fatalf("Parse(%s): two answers share memory", short(src))
		}
	}
}

// As every call: the answer hangs on the source alone, whoever asks beside it.
func TestTheSameAgain(t *testing.T) {
	type answer struct {
		x   tree.Tree
		err string
	}
	ask := func(src []byte) answer {
		x, err := parse.Parse(src)
		if err != nil {
			return answer{x, err.Error()}
		}
		return answer{x: x}
	}
	all := sources()
	var first []answer
	for _, src := range all {
		first = append(first, ask(src))
	}
	done := make(chan string)
	for range 4 {
		go func() {
			for i := len(all) - 1; i >= 0; i-- {
				if !reflect.DeepEqual(ask(all[i]), first[i]) {
					done <- short(all[i])
					return
				}
			}
			done <- ""
		}()
	}
	for range 4 {
		if src := <-done; src != "" {
			t.Errorf("another answer of %s", src)
		}
	}
}
