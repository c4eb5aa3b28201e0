package lex_test

import (
	"bytes"
	"fmt"
	"math/big"
	"reflect"
	"regexp"
	"slices"
	"strings"
	"testing"

	"interlock/api"
	"interlock/diag"
	"interlock/lex"
)

// What the chapter says, written down a second time and by other means than the package's own, for the tests to hold the package against.

const chapterMarks = "{ } ( ) [ ] ; , . + - * < = =="

var (
	blanks  = regexp.MustCompile(`^(?:[\x20\x09\x0a\x0d]|#[^\n]*)+`)
	names   = regexp.MustCompile(`^[a-z][a-z0-9_]*`)
	numbers = regexp.MustCompile(`^[0-9]+`)
	marks   = regexp.MustCompile(`^(?:==|[{}()\[\];,.+*<=-])`)
)

// found is what Lex is to tell: tokens, or a number and its place.
type found struct {
	tokens []lex.Token
	e      api.Errno
	at     int
}

func expected(src []byte) found {
	if len(src) > 65536 {
		return found{e: api.ErrLimit}
	}
	var f found
	at := 0
	for {
		rest := src[at:]
		if n := len(blanks.Find(rest)); n > 0 {
			at += n
			continue
		}
		if len(rest) == 0 {
			f.tokens = append(f.tokens, lex.Token{Kind: lex.End, At: at, End: at})
			return f
		}
		kind := lex.Name
		text := names.Find(rest)
		if text == nil {
			kind, text = lex.Number, numbers.Find(rest)
		}
		if text == nil {
			kind, text = lex.Mark, marks.Find(rest)
		}
		if text == nil {
			return found{e: api.ErrByte, at: at}
		}
		token := lex.Token{Kind: kind, At: at, End: at + len(text), Text: string(text)}
		if kind == lex.Number {
			n, _ := new(big.Int).SetString(token.Text, 10)
			if n.Cmp(big.NewInt(2147483647)) > 0 {
				return found{e: api.ErrNumber, at: at}
			}
			token.N = n.Int64()
		}
		f.tokens = append(f.tokens, token)
		at = token.End
	}
}

// short cuts what a failed test shows, and quotes sources, which may have any bytes.
func short(v any) string {
	s := fmt.Sprintf("%+v", v)
	if text, ok := v.(string); ok {
		s = fmt.Sprintf("%q", text)
	}
	if len(s) > 400 {
		return s[:400] + ".."
	}
	return s
}

// wantLex holds Lex against what was found by other means.
func wantLex(t *testing.T, src []byte, want found) {
	t.Helper()
	tokens, err := lex.Lex(src)
	if want.e == api.OK {
		if err != nil {
			t.Fatalf("Lex(%s) = %v", short(string(src)), err)
		}
		if !slices.Equal(tokens, want.tokens) {
			t.Fatalf("Lex(%s) = %s, want %s", short(string(src)), short(tokens), short(want.tokens))
		}
		return
	}
	if len(tokens) != 0 {
		t.Errorf("Lex(%s) = %s, beside an error", short(string(src)), short(tokens))
	}
	if !reflect.DeepEqual(err, diag.New(src, want.at, want.e)) {
		t.Fatalf("Lex(%s) = %v, want %v", short(string(src)), err, diag.New(src, want.at, want.e))
	}
}

func wantError(t *testing.T, src string, e api.Errno, at int) {
	t.Helper()
	wantLex(t, []byte(src), found{e: e, at: at})
}

// wantWords asks for the texts alone, that of the end left out; kinds and places are held against what expected tells.
func wantWords(t *testing.T, src string, words ...string) []lex.Token {
	t.Helper()
	wantLex(t, []byte(src), expected([]byte(src)))
	tokens := mustLex(t, []byte(src))
	var got []string
	for _, token := range tokens[:len(tokens)-1] {
		got = append(got, token.Text)
	}
	if !slices.Equal(got, words) {
		t.Fatalf("Lex(%s) has %s, want %s", short(src), short(got), short(words))
	}
	return tokens
}

func mustLex(t *testing.T, src []byte) []lex.Token {
	t.Helper()
	tokens, err := lex.Lex(src)
	if err != nil {
		t.Fatalf("Lex(%s) = %v", short(string(src)), err)
	}
	if len(tokens) == 0 {
		t.Fatalf("Lex(%s) has no token, not even the end", short(string(src)))
	}
	return tokens
}

// sample is a source with all that there is in it.
const sample = `table t(c, d_1); # a table: 99999999999 $
proc p(a, b2)single{ # §
	read x = t[a*2].c for update;
	if x<(1+-b2) {set t[a].d_1=007;}	else { emit x-2147483647; }
	if a==b2{ lock t all; chop; } put t[1](1,2) ;` + "\r\n}#"

// everyShort gives all sources of up to that many of the pieces, one after another.
func everyShort(most int, pieces []string, give func(src []byte)) {
	var grow func(src []byte, left int)
	grow = func(src []byte, left int) {
		give(bytes.Clone(src))
		if left == 0 {
			return
		}
		for _, piece := range pieces {
			grow(append(slices.Clip(src), piece...), left-1)
		}
	}
	grow(nil, most)
}

func TestChapterExamples(t *testing.T) { // P3.1
	tokens := wantWords(t, "a1 ==12;# b", "a1", "==", "12", ";")
	want := []lex.Token{
		{Kind: lex.Name, At: 0, End: 2, Text: "a1"},
		{Kind: lex.Mark, At: 3, End: 5, Text: "=="},
		{Kind: lex.Number, At: 5, End: 7, Text: "12", N: 12},
		{Kind: lex.Mark, At: 7, End: 8, Text: ";"},
		{Kind: lex.End, At: 11, End: 11},
	}
	if !slices.Equal(tokens, want) {
		t.Errorf("%+v, want %+v", tokens, want)
	}
	wantWords(t, "1a", "1", "a")
	wantError(t, "2147483648", api.ErrNumber, 0)
	wantError(t, "a$", api.ErrByte, 1)
	wantWords(t, "a===b", "a", "==", "=", "b")
}

func TestKindsHaveTheChaptersNumbers(t *testing.T) { // P3.1
	if got := [4]uint8{lex.Name, lex.Number, lex.Mark, lex.End}; got != [4]uint8{1, 2, 3, 4} {
		t.Errorf("the kinds are %v", got)
	}
}

func TestNothingButBlanks(t *testing.T) { // P3.1
	if tokens, err := lex.Lex(nil); err != nil || !slices.Equal(tokens, []lex.Token{{Kind: lex.End}}) {
		t.Errorf("Lex(nil) = %+v, %v", tokens, err)
	}
	for _, src := range []string{
		"", " ", "\t", "\n", "\r", " \t\n\r \r\n", "#", "##", "# a remark", "# a remark\n", "#\n#", "#\n\n# b\n ", " # a b 1 == $ \x00\xff é", "#\r", "#a\rb", "#A\n#99999999999\n",
	} {
		wantLex(t, []byte(src), found{tokens: []lex.Token{{Kind: lex.End, At: len(src), End: len(src)}}})
	}
}

func TestRemarksEndWithTheirLine(t *testing.T) { // P3.1
	wantWords(t, "a#b\nc", "a", "c")
	wantWords(t, "a #b#c\n#d\n 1#2", "a", "1")
	wantWords(t, "#\na", "a")
	wantWords(t, "#x\r\ra\n;", ";") // 13 alone ends no line
	wantWords(t, "a#", "a")
	wantWords(t, "a=#=\n=b", "a", "=", "=", "b")
	wantWords(t, "1#\n2", "1", "2")
	wantError(t, "#$\n$", api.ErrByte, 3)
	wantError(t, "# x\n2147483648 # y", api.ErrNumber, 4)
}

func TestEveryByteAlone(t *testing.T) { // P3.1
	for n := range 256 {
		b := byte(n)
		src := []byte{b}
		token := lex.Token{End: 1, Text: string(src)}
		switch {
		case b == 32 || b == 9 || b == 10 || b == 13 || b == '#':
			wantLex(t, src, found{tokens: []lex.Token{{Kind: lex.End, At: 1, End: 1}}})
			continue
		case b >= 'a' && b <= 'z':
			token.Kind = lex.Name
		case b >= '0' && b <= '9':
			token.Kind, token.N = lex.Number, int64(b-'0')
		case slices.Contains(strings.Fields(chapterMarks), string(rune(b))):
			token.Kind = lex.Mark
		default:
			wantLex(t, src, found{e: api.ErrByte})
			continue
		}
		wantLex(t, src, found{tokens: []lex.Token{token, {Kind: lex.End, At: 1, End: 1}}})
	}
}

func TestEveryByteBesideOthers(t *testing.T) { // P3.1
	for n := range 256 {
		for _, around := range [][2]string{{"a", ""}, {"", "a"}, {"1", ""}, {"", "1"}, {"=", "="}, {"a", "b"}, {"1", "2"}, {" ", " "}, {"#", ""}, {"#", "\na"}, {"a_", "_"}} {
			src := append([]byte(around[0]), byte(n))
			src = append(src, around[1]...)
			wantLex(t, src, expected(src))
		}
	}
}

func TestNamesAndNumbersThatTouch(t *testing.T) { // P3.1
	wantWords(t, "1a", "1", "a")
	wantWords(t, "a1", "a1")
	wantWords(t, "a1b2_3", "a1b2_3")
	wantWords(t, "12ab34", "12", "ab34")
	wantWords(t, "0x_1", "0", "x_1")
	wantWords(t, "a__", "a__")
	wantWords(t, "z9_ 9z_", "z9_", "9", "z_")
	wantWords(t, "2147483647a", "2147483647", "a")
	wantWords(t, "readx read x", "readx", "read", "x")
	wantWords(t, strings.Repeat("ab_9", 1000), strings.Repeat("ab_9", 1000))
	wantError(t, "_", api.ErrByte, 0)
	wantError(t, "1_", api.ErrByte, 1)
	wantError(t, "aB", api.ErrByte, 1)
	wantError(t, "aé", api.ErrByte, 1)
	wantError(t, "a\x00", api.ErrByte, 1)
	wantError(t, "2147483648a", api.ErrNumber, 0)
}

func TestNumbers(t *testing.T) { // P3.1
	for text, n := range map[string]int64{
		"0": 0, "00": 0, "7": 7, "10": 10, "007": 7, "2147483646": 2147483646, "2147483647": 2147483647, "02147483647": 2147483647,
		strings.Repeat("0", 40) + "2147483647": 2147483647, strings.Repeat("0", 65536): 0, strings.Repeat("0", 65535) + "1": 1,
	} {
		if tokens := wantWords(t, text, text); tokens[0].N != n || tokens[0].Kind != lex.Number {
			t.Errorf("Lex(%s) is %d", short(text), tokens[0].N)
		}
	}
	for _, text := range []string{
		"2147483648", "02147483648", "2147483650", "3000000000", "9999999999", "4294967296", "4294967297", "9223372036854775807", "9223372036854775808",
		"18446744073709551616", "18446744073709551617", strings.Repeat("9", 65536), strings.Repeat("0", 65526) + "2147483648", "1" + strings.Repeat("0", 64),
	} {
		wantError(t, text, api.ErrNumber, 0)
	}
	wantError(t, "a ;\n -2147483648", api.ErrNumber, 6)
}

func TestEveryMark(t *testing.T) { // P3.1
	all := strings.Fields(chapterMarks)
	wantWords(t, chapterMarks, all...)
	for _, a := range all {
		wantWords(t, a, a)
		for _, b := range all {
			if a == "=" && b[0] == '=' {
				continue // which touch as another mark
			}
			wantWords(t, a+b, a, b)
		}
	}
}

func TestEqualsInRows(t *testing.T) { // P3.1
	for n := 1; n <= 40; n++ {
		var words []string
		for range n / 2 {
			words = append(words, "==")
		}
		if n%2 == 1 {
			words = append(words, "=")
		}
		wantWords(t, strings.Repeat("=", n), words...)
		wantWords(t, "<"+strings.Repeat("=", n)+"a", append(append([]string{"<"}, words...), "a")...)
	}
	wantWords(t, "= == = ==", "=", "==", "=", "==")
}

func TestTheLongestAndOneMore(t *testing.T) { // P3.1
	for _, piece := range []string{"a", "(", "=", " ", "#", "\n", "a ", "1;", "0", "#\n", "x=y;\n"} {
		src := []byte(strings.Repeat(piece, 65536/len(piece)+1))
		wantLex(t, src[:65536], expected(src[:65536]))
		wantLex(t, src[:65535], expected(src[:65535]))
		wantLex(t, src[:65537], found{e: api.ErrLimit})
	}
	wantError(t, strings.Repeat("\n", 65535)+"$", api.ErrByte, 65535)
	wantError(t, strings.Repeat("a", 1<<22), api.ErrLimit, 0)
	if api.MaxText != 65536 {
		t.Errorf("MaxText is %d", api.MaxText)
	}
}

func TestWhichOfTwoErrorsComesFirst(t *testing.T) { // P3.1
	wantError(t, "$ 2147483648", api.ErrByte, 0)
	wantError(t, "2147483648$", api.ErrNumber, 0)
	wantError(t, "2147483648 2147483649", api.ErrNumber, 0)
	wantError(t, "a\n$ %", api.ErrByte, 2)
	wantError(t, "a\n;99999999999 $", api.ErrNumber, 3)
	wantError(t, "a\n;99999999999$", api.ErrNumber, 3)
	wantError(t, "a A 99999999999", api.ErrByte, 2)
	long := strings.Repeat(" ", 65536)
	wantError(t, "$"+long, api.ErrLimit, 0)
	wantError(t, "99999999999"+long, api.ErrLimit, 0)
	wantError(t, long+"$", api.ErrLimit, 0)
	wantError(t, strings.Repeat("9", 65537), api.ErrLimit, 0)
}

func TestErrorsTellLines(t *testing.T) { // P3.1
	_, err := lex.Lex([]byte("a;\n# b\n\tc = 5 $;"))
	if got := err.Error(); got != "line 3, column 8: interlock: error 30" {
		t.Errorf("Lex tells %q", got)
	}
}

func TestEveryShortSource(t *testing.T) { // P3.1
	everyShort(5, []string{"a", "z", "_", "0", "9", "=", "#", "\n", " ", "$", "-"}, func(src []byte) {
		wantLex(t, src, expected(src))
	})
	everyShort(3, []string{"2147483647", "2147483648", "x1", "==", "#=", "\r", "\t", "[", ";", "A", "\xff"}, func(src []byte) {
		wantLex(t, src, expected(src))
	})
}

func TestIsName(t *testing.T) { // P3.2
	for n := range 256 {
		b := string([]byte{byte(n)})
		lower := n >= 'a' && n <= 'z'
		inside := lower || n >= '0' && n <= '9' || n == '_'
		for text, want := range map[string]bool{
			b: lower, b + "a": lower, b + "_9": lower, "a" + b: inside, "a" + b + "z": inside, "a_1" + b: inside, " " + b: false, b + " ": false, "1" + b: false, "_" + b: false,
		} {
			if got := lex.IsName(text); got != want {
				t.Errorf("IsName(%q) = %t", text, got)
			}
		}
	}
	for text, want := range map[string]bool{
		"": false, "a": true, "read": true, "a\n": false, "a#": false, "aß": false, "é": false, "a b": false, "a.b": false,
		strings.Repeat("a", 1<<20): true, strings.Repeat("a", 1<<20) + "A": false, strings.Repeat("1", 1<<20): false,
	} {
		if got := lex.IsName(text); got != want {
			t.Errorf("IsName(%s) = %t", short(text), got)
		}
	}
}

func TestIsNameAndLexAgree(t *testing.T) { // P3.2
	everyShort(4, []string{"a", "z", "_", "0", "9", "=", "#", "\n", " ", "A", "\xc3"}, func(src []byte) {
		tokens, err := lex.Lex(src)
		want := err == nil && len(tokens) == 2 && tokens[0].Kind == lex.Name && tokens[0].Text == string(src)
		if got := lex.IsName(string(src)); got != want {
			t.Fatalf("IsName(%q) = %t", src, got)
		}
	})
}

func TestTheSourceIsOnlyRead(t *testing.T) { // P3.3
	for _, text := range []string{sample, "a 1 $", "2147483648", "", strings.Repeat("a ", 40000)} {
		memory := []byte(text + "behind 9 == $")
		before := bytes.Clone(memory)
		src := memory[:len(text)]
		wantLex(t, src, expected([]byte(text))) // what lies behind the source's length is none of it
		if !bytes.Equal(memory, before) {
			t.Errorf("Lex left %q of %q", memory, before)
		}
	}
	memory := []byte("a12==")
	wantLex(t, memory[:2], expected([]byte("a1")))
	wantLex(t, memory[1:2], expected([]byte("1")))
	wantLex(t, memory[3:4], expected([]byte("=")))
}

func TestTheAnswerIsNewMemory(t *testing.T) { // P3.3
	src := []byte(sample)
	want := expected(src).tokens
	one, two := mustLex(t, src), mustLex(t, src)
	clear(src)
	if !slices.Equal(one, want) || !slices.Equal(two, want) {
		t.Fatalf("tokens change with the source that they were of")
	}
	clear(one[:cap(one)])
	if !slices.Equal(two, want) {
		t.Errorf("one answer changes with another")
	}
	if again := mustLex(t, []byte(sample)); !slices.Equal(again, want) {
		t.Errorf("Lex answers %s the second time", short(again))
	}
}

// wantInOrder: P3.4, its first sentence.
func wantInOrder(t *testing.T, src []byte, tokens []lex.Token) {
	t.Helper()
	behind := 0
	for i, token := range tokens {
		last := i == len(tokens)-1
		if token.At < behind || token.End < token.At || token.End > len(src) || (token.End == token.At) != last || (token.Kind == lex.End) != last {
			t.Fatalf("of %s: token %d is %+v, behind %d", short(string(src)), i, token, behind)
		}
		if between := src[behind:token.At]; len(blanks.Find(between)) != len(between) {
			t.Fatalf("of %s: %q stands ahead of token %d", short(string(src)), between, i)
		}
		if token.Text != string(src[token.At:token.End]) {
			t.Fatalf("of %s: token %d is %+v", short(string(src)), i, token)
		}
		behind = token.End
	}
	if behind != len(src) {
		t.Fatalf("of %s: the end is at %d", short(string(src)), behind)
	}
}

// wantSame holds tokens against each other, places apart.
func wantSame(t *testing.T, src []byte, want []lex.Token) {
	t.Helper()
	got := mustLex(t, src)
	same := slices.EqualFunc(got, want, func(a, b lex.Token) bool {
		return a.Kind == b.Kind && a.Text == b.Text && a.N == b.N
	})
	if !same {
		t.Fatalf("Lex(%s) = %s, want the words of %s", short(string(src)), short(got), short(want))
	}
	wantInOrder(t, src, got)
}

// apart puts each of the blanks in turn between the tokens, and ahead of the first and behind the last one.
func apart(src []byte, tokens []lex.Token, fillers ...string) []byte {
	var out []byte
	behind := 0
	for i, token := range tokens {
		between := src[behind:token.At]
		out = append(out, between...)
		if bytes.Contains(between, []byte("#")) && !bytes.HasSuffix(between, []byte("\n")) {
			out = append(out, '\n') // the remark would have the filler within it
		}
		out = append(out, fillers[i%len(fillers)]...)
		out = append(out, src[token.At:token.End]...)
		behind = token.End
	}
	return out
}

func TestTokensRise(t *testing.T) { // P3.4
	wantInOrder(t, []byte(sample), mustLex(t, []byte(sample)))
	everyShort(4, []string{"a", "_", "9", "2147483647", "=", "#", "\n", " ", "$", "["}, func(src []byte) {
		if tokens, err := lex.Lex(src); err == nil {
			wantInOrder(t, src, tokens)
		}
	})
}

func TestBlanksBetweenTokensChangeNothing(t *testing.T) { // P3.4
	sources := []string{sample, "", "a", "1a", "a===b", "a#b\nc#d"}
	for _, src := range sources {
		tokens := mustLex(t, []byte(src))
		for _, fillers := range [][]string{{" "}, {"\t"}, {"\r"}, {"\n"}, {"#\n"}, {"# 1 a == $ \xff #\n"}, {" \t\r\n", "#x\n\n", "", "\r"}, {strings.Repeat(" ", 300)}} {
			wantSame(t, apart([]byte(src), tokens, fillers...), tokens)
		}
	}
	everyShort(4, []string{"a", "9", "=", "#", "\n", " ", "<"}, func(src []byte) {
		tokens := mustLex(t, src)
		wantSame(t, apart(src, tokens, " ", "#=\n"), tokens)
	})
}

func TestTextsWithABlankBehindEach(t *testing.T) { // P3.4
	again := func(src []byte) {
		tokens, err := lex.Lex(src)
		if err != nil {
			return
		}
		for _, blank := range []string{" ", "\t", "\n", "\r", "#\n", "# = a1\n"} {
			var texts []byte
			for _, token := range tokens {
				texts = append(append(texts, token.Text...), blank...)
			}
			wantSame(t, texts, tokens)
		}
	}
	again([]byte(sample))
	again([]byte(strings.Repeat("=", 10000)))
	everyShort(4, []string{"a", "_", "9", "2147483647", "=", "#", "\n", " ", "-"}, again)
}

func TestTheSameAgain(t *testing.T) { // as every call: the answer hangs on the source alone
	for _, src := range []string{sample, "a $", "99999999999", strings.Repeat("x", 70000)} {
		for range 20 {
			wantLex(t, []byte(src), expected([]byte(src)))
			lex.IsName(src)
		}
	}
}
