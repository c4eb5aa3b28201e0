package lower_test

import (
	"fmt"
	"math"
	"math/rand"
	"reflect"
	"runtime"
	"runtime/debug"
	"slices"
	"strings"
	"testing"

	"interlock/api"
	"interlock/code"
	"interlock/lower"
	"interlock/mode"
	"interlock/names"
	"interlock/parse"
	"interlock/tree"
)

// short cuts what a failed test shows.
func short(x any) string {
	s := fmt.Sprintf("%v", x)
	if len(s) > 1600 {
		return s[:800] + " .. " + s[len(s)-800:]
	}
	return s
}

func mustResolve(t *testing.T, src string) names.Program {
	t.Helper()
	x, err := parse.Parse([]byte(src))
	if err != nil {
		t.Fatalf("Parse(%s) = %v", short(src), err)
	}
	p, err := names.Resolve([]byte(src), x)
	if err != nil {
		t.Fatalf("Resolve(%s) = %v", short(src), err)
	}
	return p
}

// termsText is a reckoning as a text: numbers, v and a variable's number, + - * and neg. What a term's kind gives no meaning
// to is told as well, if it is not nought.
func termsText(l []code.Term) string {
	var words []string
	for _, x := range l {
		word := "?"
		switch x.Kind {
		case code.Number:
			word, x.N = fmt.Sprint(x.N), 0
		case code.Var:
			word, x.Var = fmt.Sprint("v", x.Var), 0
		case code.Plus, code.Minus, code.Times, code.Neg:
			word = []string{"+", "-", "*", "neg"}[x.Kind-code.Plus]
		}
		if x.N != 0 || x.Var != 0 {
			word += fmt.Sprintf("(%d, %d)", x.N, x.Var)
		}
		words = append(words, word)
	}
	return strings.Join(words, " ")
}

// text is an instruction as a text, with each field that is not nought but Node: a mode, t and a table's number, [a row's
// key], c and a column, v and a variable, (values), from and upto, and > with where it goes on, counted from base on. A Key
// without Row is told by a . behind it.
func text(x code.Instr, base int) string {
	s := "?"
	if int(x.Op) < len(opNames) {
		s = opNames[x.Op]
	}
	add := func(is bool, format string, value any) {
		if is {
			s += " " + fmt.Sprintf(format, value)
		}
	}
	add(x.Mode != api.None, "%s", modeNames[x.Mode%6])
	add(x.Table != 0, "t%d", x.Table)
	add(x.Row && x.Key != nil, "[%s]", termsText(x.Key))
	add(x.Row && x.Key == nil, "%s", "row without a key")
	add(!x.Row && x.Key != nil, "[%s].", termsText(x.Key))
	add(x.Col != 0, "c%d", x.Col)
	add(x.Var != 0, "v%d", x.Var)
	add(x.Equal, "%s", "==")
	for _, value := range x.Vals {
		add(true, "(%s)", termsText(value))
	}
	add(x.From != 0, "from %d", x.From)
	add(x.Upto != 0, "upto %d", x.Upto)
	isJump := slices.Contains([]uint8{code.Jump, code.Unless, code.Begin, code.Next}, x.Op)
	add(isJump || x.To != 0, ">%d", x.To-base)
	return s
}

func texts(l []code.Instr, base int) []string {
	var all []string
	for _, x := range l {
		all = append(all, text(x, base))
	}
	return all
}

// split are the instructions of a text that has a ; between them.
func split(text string) []string {
	var all []string
	for _, s := range strings.Split(text, ";") {
		if s = strings.TrimSpace(s); s != "" {
			all = append(all, s)
		}
	}
	return all
}

// with is a source of three tables and a procedure with these statements: its parameters are v0 and v1.
func with(statements string) string {
	return "table t(c, d); table u(e); table w(f, g, h); proc p(a, b) { " + statements + " }"
}

func wantProc(t *testing.T, src string, n int, want string) {
	t.Helper()
	if got := texts(lower.Proc(mustResolve(t, src), n), 0); !slices.Equal(got, split(want)) {
		t.Errorf("%s:\n%s, want\n%s", src, strings.Join(got, "; "), want)
	}
}

// The chapter's examples, and the document's forms of them.
func TestExamples(t *testing.T) { // P9.1
	for statements, want := range map[string]string{
		"read x = t[1].c;":                  "Ask IS; Ask S [1]; Read [1].; End",
		"if 1 < 2 { } else { emit 1; }":     "Unless (1) (2) >2; Jump >3; Emit (1); End",
		"for i = 1 to 3 { }":                "Begin from 1 upto 3 >2; Next upto 3 >1; End",
		"read x = t[1].c for update;":       "Ask IX; Ask X [1]; Read [1].; End",
		"set t[1].c = 1; chop;":             "Ask IX; Ask X [1]; Set [1]. (1); Piece; End",
		"read x = t[1].c; release t[1];":    "Ask IS; Ask S [1]; Read [1].; Free [1]; End",
		"if 1 == 2 { emit 1; } emit 2;":     "Unless == (1) (2) >2; Emit (1); Emit (2); End",
		"for i = 2 to 5 { let x = i; }":     "Begin from 2 upto 5 >3; Let v1 (v0); Next upto 5 >1; End",
		"scan x = t.c; lock t all; chop; ":  "Ask S; Scan; Ask X; Piece; End",
		"lock t shared; release t; emit 0;": "Ask S; Free; Emit (0); End",
	} {
		wantProc(t, "table t(c); proc p() { "+statements+" }", 0, want)
	}
}

// ways is a statement of each kind and form, with its instructions as they stand alone.
var ways = [][2]string{
	{"read x = t[a].c;", "Ask IS; Ask S [v0]; Read [v0]. v2"},
	{"read b = t[7].d;", "Ask IS; Ask S [7]; Read [7]. c1 v1"},
	{"read a = u[0].e;", "Ask IS t1; Ask S t1 [0]; Read t1 [0]."},
	{"read x = w[b].h for update;", "Ask IX t2; Ask X t2 [v1]; Read t2 [v1]. c2 v2"},
	{"read b = t[a].c for update;", "Ask IX; Ask X [v0]; Read [v0]. v1"},
	{"set t[1].c = 2;", "Ask IX; Ask X [1]; Set [1]. (2)"},
	{"set w[a].g = b;", "Ask IX t2; Ask X t2 [v0]; Set t2 [v0]. c1 (v1)"},
	{"put u[1](2);", "Ask IX t1; Ask X t1 [1]; Put t1 [1]. (2)"},
	{"put t[a](b, 3);", "Ask IX; Ask X [v0]; Put [v0]. (v1) (3)"},
	{"put w[b](3, a, 0);", "Ask IX t2; Ask X t2 [v1]; Put t2 [v1]. (3) (v0) (0)"},
	{"delete t[b];", "Ask IX; Ask X [v1]; Delete [v1]."},
	{"delete u[5];", "Ask IX t1; Ask X t1 [5]; Delete t1 [5]."},
	{"scan x = t.c;", "Ask S; Scan v2"},
	{"scan b = w.g;", "Ask S t2; Scan t2 c1 v1"},
	{"lock t shared;", "Ask S"},
	{"lock u shared;", "Ask S t1"},
	{"lock t all;", "Ask X"},
	{"lock w all;", "Ask X t2"},
	{"release t;", "Free"},
	{"release u;", "Free t1"},
	{"release t[a];", "Free [v0]"},
	{"release w[9];", "Free t2 [9]"},
	{"if a < b { }", "Unless (v0) (v1) >1"},
	{"if 1 == a { }", "Unless == (1) (v0) >1"},
	{"if a < b { emit 1; emit 2; }", "Unless (v0) (v1) >3; Emit (1); Emit (2)"},
	{"if a < b { } else { }", "Unless (v0) (v1) >2; Jump >2"},
	{"if a == b { } else { emit 1; }", "Unless == (v0) (v1) >2; Jump >3; Emit (1)"},
	{"if a == b { emit 1; } else { }", "Unless == (v0) (v1) >3; Emit (1); Jump >3"},
	{"if b < 0 { emit 1; } else { emit 2; emit 3; }", "Unless (v1) (0) >3; Emit (1); Jump >5; Emit (2); Emit (3)"},
	{"for i = 0 to 0 { }", "Begin v2 >2; Next v2 >1"},
	{"for i = 5 to 2 { }", "Begin v2 from 5 upto 2 >2; Next v2 upto 2 >1"},
	{"for i = 0 to 2147483647 { emit i; }", "Begin v2 upto 2147483647 >3; Emit (v2); Next v2 upto 2147483647 >1"},
	{"for i = 3 to 4 { emit i; scan a = u.e; }", "Begin v2 from 3 upto 4 >5; Emit (v2); Ask S t1; Scan t1; Next v2 upto 4 >1"},
	{"let x = a;", "Let v2 (v0)"},
	{"let a = 0;", "Let (0)"},
	{"emit 5;", "Emit (5)"},
	{"emit b;", "Emit (v1)"},
	{"rollback;", "Rollback"},
	{"chop;", "Piece"},
}

// moved is a text's instructions with all that they go on at so many places on, and a variable that they declare at that
// number.
func moved(text string, by, declared int) []string {
	var all []string
	for _, s := range split(text) {
		words := strings.Fields(s)
		for i, word := range words {
			if word[0] == '>' {
				to := 0
				fmt.Sscan(word[1:], &to)
				words[i] = fmt.Sprint(">", to+by)
			}
			words[i] = strings.ReplaceAll(words[i], "v2", fmt.Sprint("v", declared))
		}
		all = append(all, strings.Join(words, " "))
	}
	return all
}

func TestEachStatementAlone(t *testing.T) { // P9.1
	for _, x := range ways {
		wantProc(t, with(x[0]), 0, x[1]+"; End")
	}
}

// Each statement first, last, between others, and within ifs and loops that stand within one another.
func TestEachStatementWherever(t *testing.T) { // P9.1
	for _, around := range []struct {
		statements, want string
		by, declared     int
	}{
		{"$ emit 8;", "$; Emit (8); End", 0, 2},
		{"emit 8; $", "Emit (8); $; End", 1, 2},
		{"let y = 6; $ emit 8;", "Let v2 (6); $; Emit (8); End", 1, 3},
		{"$ $", "$; $; End", 0, 2},
		{"if 1 < 2 { $ }", "Unless (1) (2) >N1; $; End", 1, 2},
		{"if 1 < 2 { $ } emit 8;", "Unless (1) (2) >N1; $; Emit (8); End", 1, 2},
		{"if 1 < 2 { $ } else { }", "Unless (1) (2) >N2; $; Jump >N2; End", 1, 2},
		{"if 1 < 2 { } else { $ }", "Unless (1) (2) >2; Jump >N2; $; End", 2, 2},
		{"if 1 < 2 { emit 7; } else { emit 8; $ emit 9; }", "Unless (1) (2) >3; Emit (7); Jump >N5; Emit (8); $; Emit (9); End", 4, 2},
		{"for k = 1 to 2 { $ }", "Begin v2 from 1 upto 2 >N2; $; Next v2 upto 2 >1; End", 1, 3},
		{"for k = 1 to 2 { emit 7; $ } emit 8;", "Begin v2 from 1 upto 2 >N3; Emit (7); $; Next v2 upto 2 >1; Emit (8); End", 2, 3},
		{"for k = 1 to 2 { for l = 3 to 4 { $ } }", "Begin v2 from 1 upto 2 >N4; Begin v3 from 3 upto 4 >N3; $; Next v3 upto 4 >2; Next v2 upto 2 >1; End", 2, 4},
		{"for k = 1 to 2 { if 3 < 4 { $ } else { emit 8; } }", "Begin v2 from 1 upto 2 >N5; Unless (3) (4) >N3; $; Jump >N4; Emit (8); Next v2 upto 2 >1; End", 2, 3},
		{"if 3 < 4 { for k = 1 to 2 { $ } } else { emit 8; }", "Unless (3) (4) >N4; Begin v2 from 1 upto 2 >N3; $; Next v2 upto 2 >2; Jump >N5; Emit (8); End", 2, 3},
		{"if 1 == 2 { if 3 < 4 { $ } else { if 5 < 6 { $ } } } else { $ }",
			"Unless == (1) (2) >2N5; Unless (3) (4) >N3; $; Jump >2N4; Unless (5) (6) >2N4; $2; Jump >3N5; $3; End", 2, 2},
	} {
		for _, x := range ways {
			if x[0] == "chop;" && strings.Contains(around.statements, "{") {
				continue
			}
			count := len(split(x[1]))
			var want []string
			for _, s := range split(around.want) {
				switch s {
				case "$":
					by := around.by
					if len(want) > by {
						by = len(want) // the second of two, one behind the other
					}
					want = append(want, moved(x[1], by, around.declared)...)
				case "$2":
					want = append(want, moved(x[1], 4+count, around.declared+isNew(x[0]))...)
				case "$3":
					want = append(want, moved(x[1], 5+2*count, around.declared+2*isNew(x[0]))...)
				default:
					want = append(want, placed(s, count))
				}
			}
			// Of two statements one behind the other the second one's variable is there, unless it is a loop's.
			if around.statements == "$ $" && strings.HasPrefix(x[0], "for") {
				want = append(moved(x[1], 0, 2), moved(x[1], count, 3)...)
				want = append(want, "End")
			}
			wantProc(t, with(strings.ReplaceAll(around.statements, "$", x[0])), 0, strings.Join(want, ";"))
		}
	}
}

// isNew tells how many variables a statement declares.
func isNew(statement string) int {
	if strings.Contains(statement, " x ") || strings.HasPrefix(statement, "for") {
		return 1
	}
	return 0
}

// placed is an instruction whose place to go on at, >N3 or >2N4, is so many times count and more.
func placed(s string, count int) string {
	words := strings.Fields(s)
	for i, word := range words {
		times, more, isCounted := strings.Cut(word, "N")
		if word[0] != '>' || !isCounted {
			continue
		}
		by, to := 1, 0
		fmt.Sscan(times[1:], &by)
		fmt.Sscan(more, &to)
		words[i] = fmt.Sprint(">", by*count+to)
	}
	return strings.Join(words, " ")
}

func TestEmptyBlocks(t *testing.T) { // P9.1
	for statements, want := range map[string]string{
		"":                                      "End",
		"if a < b { }":                          "Unless (v0) (v1) >1; End",
		"if a < b { } else { }":                 "Unless (v0) (v1) >2; Jump >2; End",
		"for i = 1 to 2 { }":                    "Begin v2 from 1 upto 2 >2; Next v2 upto 2 >1; End",
		"for i = 1 to 2 { for k = 3 to 4 { } }": "Begin v2 from 1 upto 2 >4; Begin v3 from 3 upto 4 >3; Next v3 upto 4 >2; Next v2 upto 2 >1; End",
		"for i = 1 to 2 { if a < b { } }":       "Begin v2 from 1 upto 2 >3; Unless (v0) (v1) >2; Next v2 upto 2 >1; End",
		"for i = 1 to 2 { if a < b { } else { } }":           "Begin v2 from 1 upto 2 >4; Unless (v0) (v1) >3; Jump >3; Next v2 upto 2 >1; End",
		"if a < b { if b < a { } } else { if a == b { } }":   "Unless (v0) (v1) >3; Unless (v1) (v0) >2; Jump >4; Unless == (v0) (v1) >4; End",
		"if a < b { for i = 1 to 2 { } }":                    "Unless (v0) (v1) >3; Begin v2 from 1 upto 2 >3; Next v2 upto 2 >2; End",
		"if a < b { } if b < a { } for i = 1 to 2 { }":       "Unless (v0) (v1) >1; Unless (v1) (v0) >2; Begin v2 from 1 upto 2 >4; Next v2 upto 2 >3; End",
		"for i = 1 to 2 { } for k = 1 to 2 { } if a < b { }": "Begin v2 from 1 upto 2 >2; Next v2 upto 2 >1; Begin v3 from 1 upto 2 >4; Next v3 upto 2 >3; Unless (v0) (v1) >5; End",
	} {
		wantProc(t, with(statements), 0, want)
	}
	wantProc(t, "proc p() { }", 0, "End")
}

func TestKeysAndValues(t *testing.T) { // P9.1
	for statements, want := range map[string]string{
		"read x = t[a + 1].c;":                       "Ask IS; Ask S [v0 1 +]; Read [v0 1 +]. v2; End",
		"read a = t[a].c;":                           "Ask IS; Ask S [v0]; Read [v0].; End",
		"set t[a - (b - 1)].d = -b * 2;":             "Ask IX; Ask X [v0 v1 1 - -]; Set [v0 v1 1 - -]. c1 (v1 neg 2 *); End",
		"put t[-5](a + b, a * (b + 1));":             "Ask IX; Ask X [5 neg]; Put [5 neg]. (v0 v1 +) (v0 v1 1 + *); End",
		"delete u[(a)];":                             "Ask IX t1; Ask X t1 [v0]; Delete t1 [v0].; End",
		"release t[-(a * b)];":                       "Free [v0 v1 * neg]; End",
		"if a - b - 1 < --a { }":                     "Unless (v0 v1 - 1 -) (v0 neg neg) >1; End",
		"if a * a == b + b { }":                      "Unless == (v0 v0 *) (v1 v1 +) >1; End",
		"let x = a * 2 - b;":                         "Let v2 (v0 2 * v1 -); End",
		"let a = a + 1; emit -a;":                    "Let (v0 1 +); Emit (v0 neg); End",
		"emit 2147483647 * 2147483647;":              "Emit (2147483647 2147483647 *); End",
		"let x = 1; if x < 2 { let y = x; emit y; }": "Let v2 (1); Unless (v2) (2) >4; Let v3 (v2); Emit (v3); End",
		// The key of a statement that declares a variable is read ahead of that.
		"let x = 3; read x = t[x].d; set t[x].c = x;": "Let v2 (3); Ask IS; Ask S [v2]; Read [v2]. c1 v2; Ask IX; Ask X [v2]; Set [v2]. (v2); End",
		// Of one name each block has its own.
		"if a < b { let x = 1; } else { let x = 2; } let x = 3;": "Unless (v0) (v1) >3; Let v2 (1); Jump >4; Let v3 (2); Let v4 (3); End",
		"for i = 1 to 2 { emit i; } for i = 3 to 4 { emit i; }":  "Begin v2 from 1 upto 2 >3; Emit (v2); Next v2 upto 2 >1; Begin v3 from 3 upto 4 >6; Emit (v3); Next v3 upto 4 >4; End",
	} {
		wantProc(t, with(statements), 0, want)
	}
	values, cols := []string{"0"}, []string{"c0"}
	for i := 1; i < 16; i++ {
		values, cols = append(values, fmt.Sprint(i)), append(cols, fmt.Sprint("c", i))
	}
	src := "table t(" + strings.Join(cols, ", ") + "); proc p() { put t[1](" + strings.Join(values, ", ") + "); set t[2].c15 = 3; }"
	wantProc(t, src, 0, "Ask IX; Ask X [1]; Put [1]. ("+strings.Join(values, ") (")+"); Ask IX; Ask X [2]; Set [2]. c15 (3); End")
}

// Tables, procedures, numbers of none.

func TestSeveralTablesAndProcedures(t *testing.T) { // P9.1, P9.2
	src := "proc p(a) { read x = u[a].e; chop; delete t[x]; } table t(c); proc q() single { } table u(d, e); proc r(b, c) { scan c = u.d; put u[b](c, b); }"
	wants := []string{
		"Ask IS t1; Ask S t1 [v0]; Read t1 [v0]. c1 v1; Piece; Ask IX; Ask X [v1]; Delete [v1].; End",
		"End",
		"Ask S t1; Scan t1 v1; Ask IX t1; Ask X t1 [v0]; Put t1 [v0]. (v1) (v0); End",
	}
	for n, want := range wants {
		wantProc(t, src, n, want)
	}
	all := lower.All(mustResolve(t, src))
	if len(all) != len(wants) {
		t.Fatalf("%d procedures", len(all))
	}
	for n, want := range wants {
		if got := texts(all[n], 0); !slices.Equal(got, split(want)) {
			t.Errorf("All, of %d: %s", n, strings.Join(got, "; "))
		}
	}
	// As many as there may be.
	src = ""
	for i := range 64 {
		src += fmt.Sprintf("table t%d(c); proc p%d() { lock t%d all; emit %d; } ", i, i, i, i)
	}
	p := mustResolve(t, src)
	all = lower.All(p)
	if len(all) != 64 || lower.Proc(p, 64) != nil {
		t.Fatalf("%d procedures", len(all))
	}
	for i := range 64 {
		want := []code.Instr{{Op: code.Ask, Mode: api.X, Table: i}, {Op: code.Emit, Vals: [][]code.Term{{{Kind: code.Number, N: int64(i)}}}}, {Op: code.End}}
		if !code.Same(all[i], want) || !code.Same(lower.Proc(p, i), want) {
			t.Errorf("of %d: %s", i, texts(all[i], 0))
		}
	}
}

func TestNumbersOfNone(t *testing.T) { // P9.1, P9.2
	p := mustResolve(t, "table t(c); proc p() { } proc q() { emit 1; }")
	for _, n := range []int{-1, -2, 2, 3, math.MinInt, math.MaxInt, math.MinInt32, math.MaxInt32, 1 << 32} {
		if l := lower.Proc(p, n); len(l) != 0 {
			t.Errorf("of %d: %s", n, texts(l, 0))
		}
	}
	for _, q := range []names.Program{{}, mustResolve(t, ""), mustResolve(t, "table t(c);"), {Procs: []names.Proc{}, Of: []int{}}} {
		for n := -1; n < 2; n++ {
			if l := lower.Proc(q, n); len(l) != 0 {
				t.Errorf("of %d of a program of none: %s", n, texts(l, 0))
			}
		}
		if all := lower.All(q); len(all) != 0 {
			t.Errorf("All of a program of none: %d", len(all))
		}
	}
}

// Each instruction's node.

// nodesOf tells of each instruction its node as the bytes of the source at which that begins, up to a blank.
func nodesOf(p names.Program, src string, l []code.Instr) string {
	var words []string
	for _, x := range l {
		word, _, _ := strings.Cut(src[p.Tree.Nodes[x.Node].At:], " ")
		words = append(words, fmt.Sprint(opNames[x.Op], ":", word))
	}
	return strings.Join(words, " ")
}

func TestNodes(t *testing.T) { // P9.1
	src := "table t(c); proc p0() { emit 1; } proc p1(a) { read x = t[a].c; set t[x].c = 1; if x < a { put t[1](2); } else { delete t[1]; } " +
		"for i = 1 to 2 { scan y = t.c; lock t shared; } release t; release t[1]; let x = 1; emit x; chop; rollback; }"
	p := mustResolve(t, src)
	want := "Ask:read Ask:read Read:read Ask:set Ask:set Set:set Unless:if Ask:put Ask:put Put:put Jump:if Ask:delete Ask:delete Delete:delete " +
		"Begin:for Ask:scan Scan:scan Ask:lock Next:for Free:release Free:release Let:let Emit:emit Piece:chop; Rollback:rollback; End:proc"
	l := lower.Proc(p, 1)
	if got := nodesOf(p, src, l); got != want {
		t.Errorf("%s, want\n%s", got, want)
	}
	// These words are statements', one behind the other; the last one is the procedure's.
	for i, x := range l {
		kind := p.Tree.Nodes[x.Node].Kind
		if isLast := i == len(l)-1; isLast && x.Node != p.Procs[1].Root || !isLast && (kind < tree.Read || kind > tree.Chop) {
			t.Errorf("%d: of the node %d", i, x.Node)
		}
	}
	if l := lower.Proc(p, 0); l[1].Node != p.Procs[0].Root || l[0].Node != p.Procs[0].Root+3 {
		t.Errorf("of the first one: %v", l)
	}
}

// What is drawn.

// drawn gives programs that are drawn.
func drawn(t *testing.T, seed int64, count int, give func(r *rand.Rand, src string, p names.Program)) {
	t.Helper()
	r := rand.New(rand.NewSource(seed))
	for range count {
		w := &pen{Rand: r, deep: 1 + r.Intn(4)}
		src := w.source(1 + r.Intn(4))
		give(r, src, mustResolve(t, src))
		if t.Failed() {
			return
		}
	}
}

// sizesOf tells how many columns each table has.
func sizesOf(p names.Program) []int {
	var sizes []int
	for _, table := range p.Tables {
		sizes = append(sizes, len(table.Cols))
	}
	return sizes
}

func alike(a, b []code.Instr) bool {
	return reflect.DeepEqual(texts(a, 0), texts(b, 0)) && slices.EqualFunc(a, b, func(x, y code.Instr) bool { return x.Node == y.Node }) && code.Same(a, b)
}

// P9.1, P9.2: the instructions are those of the second reading, with each one's node.
func TestDrawnPrograms(t *testing.T) {
	ops := map[uint8]int{}
	drawn(t, 91, 1500, func(r *rand.Rand, src string, p names.Program) {
		all := lower.All(p)
		if len(all) != len(p.Procs) {
			t.Fatalf("%d of %d procedures", len(all), len(p.Procs))
		}
		for n, l := range all {
			want := procAs(p, n)
			if !alike(l, want) || !alike(lower.Proc(p, n), want) {
				t.Errorf("%s: of %d:\n%s, want\n%s", src, n, strings.Join(texts(l, 0), "\n"), strings.Join(texts(want, 0), "\n"))
			}
			for _, x := range l {
				ops[x.Op]++
			}
		}
		if lower.Proc(p, len(p.Procs)) != nil || lower.Proc(p, -1) != nil {
			t.Error("a procedure that is none")
		}
	})
	for op := code.Ask; op <= code.End; op++ {
		if ops[op] < 500 {
			t.Errorf("%d of %s: the test is not worth much", ops[op], opNames[op])
		}
	}
}

// P9.4: instructions are right for the program's tables and the procedure's variables, and for none fewer.
func TestInstructionsAreRight(t *testing.T) {
	drawn(t, 92, 1500, func(r *rand.Rand, src string, p names.Program) {
		for n, l := range lower.All(p) {
			if !code.Right(l, sizesOf(p), len(p.Procs[n].Vars)) {
				t.Errorf("%s: of %d: not right: %s", src, n, strings.Join(texts(l, 0), "\n"))
			}
		}
	})
	// Statements of each kind, alone and twice.
	for _, x := range ways {
		for _, statements := range []string{x[0], x[0] + x[0]} {
			p := mustResolve(t, with(statements))
			if l := lower.Proc(p, 0); !code.Right(l, []int{2, 1, 3}, len(p.Procs[0].Vars)) {
				t.Errorf("%s: not right: %s", statements, texts(l, 0))
			}
		}
	}
}

// isAsk tells whether there is an instruction, which asks for that table, or row.
func isAsk(l []code.Instr, i, table int, row bool, key []code.Term) bool {
	if i < 0 {
		return false
	}
	x := l[i]
	return x.Op == code.Ask && x.Table == table && x.Row == row && slices.Equal(x.Key, key)
}

// goneTo are the places at which some instruction goes on.
func goneTo(l []code.Instr) map[int]int {
	places := map[int]int{}
	for _, x := range l {
		if slices.Contains([]uint8{code.Jump, code.Unless, code.Begin, code.Next}, x.Op) {
			places[x.To]++
		}
	}
	return places
}

// P9.4: what reads or writes a row stands right behind an Ask of it, and that behind one of its table, each in a mode that
// allows it; so does each Scan behind one of its table; as many Piece as Chop.
func TestLocksAhead(t *testing.T) {
	rows, scans, pieces := 0, 0, 0
	check := func(src string, p names.Program, n int) {
		l := lower.Proc(p, n)
		gone, chops, root := goneTo(l), 0, p.Procs[n].Root
		for _, node := range p.Tree.Nodes[root : root+tree.Size(p.Tree, root)] {
			if node.Kind == tree.Chop {
				chops++
			}
		}
		for i, x := range l {
			need := api.X
			switch x.Op {
			case code.Piece:
				chops--
				pieces++
				continue
			case code.Scan:
				scans++
				if !isAsk(l, i-1, x.Table, false, nil) || gone[i] > 0 || !mode.Covers(mode.Row(l[i-1].Mode), api.S) {
					t.Errorf("%s: of %d: the Scan at %d: %s", src, n, i, texts(l, 0))
				}
				continue
			case code.Read:
				need = api.S
			case code.Set, code.Put, code.Delete:
			default:
				continue
			}
			rows++
			if !isAsk(l, i-1, x.Table, true, x.Key) || !isAsk(l, i-2, x.Table, false, nil) || gone[i] > 0 || gone[i-1] > 0 ||
				!mode.Covers(l[i-1].Mode, need) || l[i-2].Mode != mode.Ahead(l[i-1].Mode) {
				t.Errorf("%s: of %d: the one at %d: %s", src, n, i, texts(l, 0))
			}
		}
		if chops != 0 {
			t.Errorf("%s: of %d: %d more Chop than Piece", src, n, chops)
		}
	}
	drawn(t, 93, 1500, func(r *rand.Rand, src string, p names.Program) {
		for n := range p.Procs {
			check(src, p, n)
		}
	})
	for _, x := range ways {
		src := with(x[0])
		check(src, mustResolve(t, src), 0)
	}
	if rows < 5000 || scans < 1000 || pieces < 1000 {
		t.Errorf("%d rows, %d scans, %d pieces: the test is not worth much", rows, scans, pieces)
	}
}

// Memory.

// behind is a list with room behind it, which is filled with what would spoil it.
func behind[T any](l []T, filling ...T) []T {
	return append(slices.Clone(l), filling...)[:len(l)]
}

// roomy is a program with room behind each list.
func roomy(p names.Program) names.Program {
	p.Of = behind(p.Of, 3, 4, 5)
	p.Tables = behind(p.Tables, names.Table{Name: "z"})
	p.Procs = behind(p.Procs, names.Proc{Name: "z", Root: 1})
	for i, proc := range p.Procs {
		p.Procs[i].Vars = behind(proc.Vars, "z")
	}
	p.Tree.Nodes = behind(p.Tree.Nodes, tree.Node{Kind: tree.Chop}, tree.Node{Kind: tree.Emit, Kids: []int{0}})
	for i, n := range p.Tree.Nodes {
		p.Tree.Nodes[i].Kids = behind(n.Kids, 1, -1, 0)
	}
	return p
}

// laid tells all of a value's memory, what lies behind its lists included.
func laid(x any) string {
	var b strings.Builder
	var tell func(v reflect.Value)
	tell = func(v reflect.Value) {
		switch v.Kind() {
		case reflect.Slice:
			fmt.Fprintf(&b, "[%d:", v.Len())
			all := v.Slice(0, v.Cap())
			for i := range all.Len() {
				tell(all.Index(i))
			}
			b.WriteString("]")
		case reflect.Struct:
			b.WriteString("{")
			for i := range v.NumField() {
				tell(v.Field(i))
			}
			b.WriteString("}")
		default:
			fmt.Fprintf(&b, "%v ", v)
		}
	}
	tell(reflect.ValueOf(x))
	return b.String()
}

// spans tells of each list of an answer, those within it too, from where to where its memory goes.
func spans(x any) [][2]uintptr {
	var all [][2]uintptr
	var look func(v reflect.Value)
	look = func(v reflect.Value) {
		switch v.Kind() {
		case reflect.Slice:
			if v.Cap() > 0 {
				first := v.Pointer()
				all = append(all, [2]uintptr{first, first + uintptr(v.Cap())*v.Type().Elem().Size()})
			}
			for i := range v.Len() {
				look(v.Index(i))
			}
		case reflect.Struct:
			for i := range v.NumField() {
				look(v.Field(i))
			}
		}
	}
	look(reflect.ValueOf(x))
	return all
}

// everyForm has each form of the grammar at least once.
const everyForm = "table t(c, d); table u(e); proc p(a, b) single { read x = t[a].c; read y = t[1].d for update; " +
	"set t[x].c = x + y * -2; put t[1](2, a - (b - 1)); delete u[(a)]; scan z = u.e; chop; lock t shared; lock u all; " +
	"release t; release t[-(a * b)]; if a < b { rollback; } else { emit z; } if a == 1 { } for i = 1 to 3 { let x = i; } rollback; } proc q() { }"

func TestWhatIsHandedInIsOnlyRead(t *testing.T) { // P9.3
	try := func(r *rand.Rand, src string, p names.Program) {
		q := roomy(p)
		before := laid(q)
		all := lower.All(q)
		for n := -1; n <= len(p.Procs); n++ {
			l := lower.Proc(q, n)
			if n >= 0 && n < len(p.Procs) && (!alike(l, procAs(p, n)) || !alike(all[n], l)) {
				t.Errorf("%s: what lies behind a list was asked: %s", src, texts(l, 0))
			}
		}
		if len(all) != len(p.Procs) || laid(q) != before {
			t.Errorf("%s: written to", src)
		}
	}
	try(nil, everyForm, mustResolve(t, everyForm))
	drawn(t, 94, 150, try)
}

// Nothing of an answer lies where something of another one, of what was handed in, or of itself does.
func TestTheAnswerIsNewMemory(t *testing.T) { // P9.3
	try := func(r *rand.Rand, src string, p names.Program) {
		q := roomy(p)
		// All are held, that none lies where one lay that is gone.
		answers := append(lower.All(q), lower.All(q)...)
		for n := range p.Procs {
			answers = append(answers, lower.Proc(q, n))
		}
		lists := append(spans(q), spans(answers)...)
		slices.SortFunc(lists, func(a, b [2]uintptr) int {
			if a[0] != b[0] {
				return int(int64(a[0]) - int64(b[0]))
			}
			return int(int64(a[1]) - int64(b[1]))
		})
		for i := 1; i < len(lists); i++ {
			if lists[i][0] < lists[i-1][1] {
				t.Fatalf("%s: two lists share their memory", src)
			}
		}
		runtime.KeepAlive(answers)
	}
	try(nil, everyForm, mustResolve(t, everyForm))
	drawn(t, 95, 60, try)
	// Whatever is written over one answer, and over the program, is nothing to the others.
	p := mustResolve(t, everyForm)
	want := procAs(p, 0)
	one, two, all := lower.Proc(p, 0), lower.Proc(p, 0), lower.All(p)
	for i, x := range one {
		clear(x.Key[:cap(x.Key)])
		for _, value := range x.Vals {
			clear(value[:cap(value)])
		}
		clear(x.Vals[:cap(x.Vals)])
		one[i] = code.Instr{Op: 99}
	}
	clear(p.Tree.Nodes)
	clear(p.Of)
	clear(p.Procs)
	if !alike(two, want) || !alike(all[0], want) {
		t.Error("an answer is shared")
	}
}

// Programs made by hand, which were not resolved.

// call asks for all procedures, and some that are none: whatever it answers.
func call(p names.Program) int {
	count := len(lower.All(p))
	for n := -1; n <= len(p.Procs); n++ {
		count += len(lower.Proc(p, n))
	}
	return count
}

func TestProgramsByHand(t *testing.T) { // P9.1, P9.2
	p := mustResolve(t, everyForm)
	clone := func() names.Program {
		q := p
		q.Tree.Nodes, q.Of, q.Procs, q.Tables = slices.Clone(p.Tree.Nodes), slices.Clone(p.Of), slices.Clone(p.Procs), slices.Clone(p.Tables)
		for i, n := range q.Tree.Nodes {
			q.Tree.Nodes[i].Kids = slices.Clone(n.Kids)
		}
		return q
	}
	numbers := []int{math.MinInt, -2, -1, 0, 1, 2, 5, len(p.Tree.Nodes) - 1, len(p.Tree.Nodes), math.MaxInt}
	for _, number := range numbers {
		q := clone()
		for n := range q.Procs {
			q.Procs[n].Root = number
		}
		call(q)
		for i := range p.Of {
			q := clone()
			q.Of[i] = number
			call(q)
			for k := range p.Tree.Nodes[i].Kids {
				q := clone()
				q.Tree.Nodes[i].Kids[k] = number
				call(q)
			}
			q = clone()
			q.Tree.Nodes[i].N = int64(number)
			call(q)
		}
	}
	for i, n := range p.Tree.Nodes {
		for kind := range 28 {
			q := clone()
			q.Tree.Nodes[i].Kind = uint8(kind)
			call(q)
		}
		q := clone()
		q.Tree.Nodes[i].Kids = nil
		call(q)
		q = clone()
		q.Tree.Nodes[i].Kids = append(n.Kids, n.Kids...)
		call(q)
		q = clone()
		q.Tree.Nodes[i].Kids = []int{i}
		call(q)
	}
	for i := range len(p.Of) {
		q := clone()
		q.Of = q.Of[:i]
		call(q)
		q = clone()
		q.Tree.Nodes = q.Tree.Nodes[:i]
		call(q)
	}
	call(names.Program{Procs: make([]names.Proc, 3)})
	call(names.Program{Tree: p.Tree})
	call(names.Program{Tree: p.Tree, Procs: p.Procs})
	call(names.Program{Procs: p.Procs, Of: p.Of})
}

// A procedure that is not where its number says is none.
func TestProceduresByHand(t *testing.T) { // P9.1, P9.2
	p := mustResolve(t, everyForm)
	for root := range p.Tree.Nodes {
		q := p
		q.Procs = []names.Proc{{Name: "p", Root: root}, p.Procs[1]}
		isProc := p.Tree.Nodes[root].Kind == tree.Proc
		if l := lower.Proc(q, 0); (len(l) > 0) != isProc || isProc && l[len(l)-1].Node != root {
			t.Errorf("at the node %d: %s", root, texts(l, 0))
		}
		if all := lower.All(q); len(all) != 2 || !code.Same(all[0], lower.Proc(q, 0)) || !code.Same(all[1], []code.Instr{{Op: code.End}}) {
			t.Errorf("at the node %d: all: %v", root, all)
		}
	}
}

func TestSpoiltPrograms(t *testing.T) { // P9.1, P9.2
	total := 0
	drawn(t, 96, 400, func(r *rand.Rand, src string, p names.Program) {
		for range 3 {
			i := r.Intn(len(p.Tree.Nodes))
			n := &p.Tree.Nodes[i]
			any := []int{-1, 0, 1, i, i + 1, r.Intn(len(p.Tree.Nodes)), len(p.Tree.Nodes), math.MaxInt}[r.Intn(8)]
			switch r.Intn(6) {
			case 0:
				n.Kind = uint8(r.Intn(28))
			case 1:
				n.Kids = append(n.Kids, any)
			case 2:
				if len(n.Kids) > 0 {
					n.Kids[r.Intn(len(n.Kids))] = any
				}
			case 3:
				n.Kids = n.Kids[:len(n.Kids)/2]
			case 4:
				p.Of[i] = any
			case 5:
				p.Procs[r.Intn(len(p.Procs))].Root = any
			}
		}
		total += call(p)
	})
	if total < 1000 {
		t.Errorf("%d instructions: the test is not worth much", total)
	}
}

// Sizes.

// lowStack lets a test fail at once that needs a deep stack.
func lowStack(t *testing.T) {
	old := debug.SetMaxStack(1 << 18)
	t.Cleanup(func() { debug.SetMaxStack(old) })
}

// nested is a right tree of a procedure whose ifs stand so deep within one another, every third one in the else.
func nested(deep int) tree.Tree {
	nodes := []tree.Node{{Kind: tree.Program, Kids: []int{1}}, {Kind: tree.Proc, Text: "p", Kids: []int{2, 3}}, {Kind: tree.Names}, {Kind: tree.Block}}
	block := 3
	for k := range deep {
		i := len(nodes)
		nodes[block].Kids = []int{i}
		switch k % 3 {
		case 0:
			nodes = append(nodes, tree.Node{Kind: tree.If, Kids: []int{i + 1, i + 2, i + 3}}, tree.Node{Kind: tree.Number}, tree.Node{Kind: tree.Number})
		case 1:
			nodes = append(nodes, tree.Node{Kind: tree.If, Kids: []int{i + 1, i + 2, i + 3, i + 4}}, tree.Node{Kind: tree.Number}, tree.Node{Kind: tree.Number}, tree.Node{Kind: tree.Block})
		case 2:
			// A loop's variable needs a name of its own, and there are but 64: the outer ones are all that are loops.
			if k >= 90 {
				nodes = append(nodes, tree.Node{Kind: tree.If, N: 1, Kids: []int{i + 1, i + 2, i + 3}}, tree.Node{Kind: tree.Number}, tree.Node{Kind: tree.Number})
				break
			}
			nodes = append(nodes, tree.Node{Kind: tree.For, Text: fmt.Sprint("x", k), Kids: []int{i + 1, i + 2, i + 3}}, tree.Node{Kind: tree.Number}, tree.Node{Kind: tree.Number})
		}
		block = len(nodes)
		nodes = append(nodes, tree.Node{Kind: tree.Block})
	}
	return tree.Tree{Nodes: nodes}
}

func TestProceduresOfAnyDepth(t *testing.T) { // P9.1
	const deep = 200000
	p, err := names.Resolve(nil, nested(deep))
	if err != nil {
		t.Fatal(err)
	}
	lowStack(t)
	l := lower.Proc(p, 0)
	// Of each three an Unless; an Unless and a Jump; and an Unless, or a Begin and its Next.
	if want := deep + (deep+1)/3 + 30 + 1; len(l) != want {
		t.Fatalf("%d instructions, want %d", len(l), want)
	}
	if !code.Right(l, nil, len(p.Procs[0].Vars)) {
		t.Error("not right")
	}
	for i, x := range l {
		if x.Op == code.Begin && (l[x.To-1].Op != code.Next || l[x.To-1].To != i+1 || l[x.To-1].Node != x.Node) {
			t.Fatalf("the loop at %d", i)
		}
	}
}

func TestLongProcedures(t *testing.T) { // P9.1
	const long = 300000
	nodes := []tree.Node{{Kind: tree.Program, Kids: []int{1}}, {Kind: tree.Proc, Text: "p", Kids: []int{2, 3}}, {Kind: tree.Names}, {Kind: tree.Block}}
	for range long {
		nodes[3].Kids = append(nodes[3].Kids, len(nodes))
		nodes = append(nodes, tree.Node{Kind: tree.Emit, Kids: []int{len(nodes) + 1}}, tree.Node{Kind: tree.Number, N: 7})
	}
	p, err := names.Resolve(nil, tree.Tree{Nodes: nodes})
	if err != nil {
		t.Fatal(err)
	}
	l := lower.Proc(p, 0)
	if len(l) != long+1 || l[long-1].Node != len(nodes)-2 || text(l[long-1], 0) != "Emit (7)" || l[long].Op != code.End {
		t.Errorf("%d instructions", len(l))
	}
}

// As every call: the answers hang on what is handed in alone, whoever asks beside it.
func TestTheSameAgain(t *testing.T) {
	var programs []names.Program
	drawn(t, 97, 40, func(r *rand.Rand, src string, p names.Program) { programs = append(programs, p) })
	ask := func(i int) string { return laid(lower.All(programs[i])) + laid(lower.Proc(programs[i], 0)) }
	var first []string
	for i := range programs {
		first = append(first, ask(i))
	}
	done := make(chan string)
	for range 4 {
		go func() {
			for i := len(programs) - 1; i >= 0; i-- {
				if ask(i) != first[i] {
					done <- first[i]
					return
				}
			}
			done <- ""
		}()
	}
	for range 4 {
		if x := <-done; x != "" {
			t.Errorf("another answer than %s", short(x))
		}
	}
}
