package diag_test

import (
	"errors"
	"fmt"
	"math"
	"slices"
	"strings"
	"testing"

	"interlock/api"
	"interlock/diag"
)

// numbers are all that api names, and some that it does not.
var numbers = []api.Errno{
	api.OK, api.ErrNil, api.ErrArg, api.ErrLimit, api.ErrState, api.ErrNone, api.ErrByte, api.ErrNumber, api.ErrSyntax,
	api.ErrDeep, api.ErrName, api.ErrTwice, api.ErrArity, api.ErrChop, api.ErrBusy, api.ErrTooLate, api.ErrVictim,
	api.ErrCanceled, api.ErrBound, api.ErrUnsafe, -1, 6, 999, math.MinInt, math.MaxInt,
}

var sources = []string{
	"", "a", "ab", "\n", "\n\n\n", "a\n", "\na", "ab\nc", "ab\nc\n\nd", "ab\nc\n\nd\n", "a\r\nb\r\n", "\r", "\t\v\f",
	"\x00\n\xff\xfe\n\x80", "é\nß→\n", "a\u2028b\u0085c", strings.Repeat("x", 300), strings.Repeat("\n", 300), strings.Repeat("table t(c);\n", 50),
}

// placeOf walks the source byte by byte, as the chapter's words go.
func placeOf(src string, at int) (place, line, col int) {
	place = at
	if place < 0 {
		place = 0
	}
	if place > len(src) {
		place = len(src)
	}
	line, col = 1, 1
	for i := range place {
		if src[i] == 10 {
			line, col = line+1, 1
		} else {
			col++
		}
	}
	return place, line, col
}

// wrap is somebody's error that wraps one.
type wrap struct{ err error }

func (w wrap) Error() string { return "wrap" }
func (w wrap) Unwrap() error { return w.err }

// many is somebody's error that wraps several, and can't be compared.
type many []error

func (m many) Error() string   { return "many" }
func (m many) Unwrap() []error { return m }

// as is somebody's error that hands out a number and a place without wrapping them.
type as struct {
	number api.Errno
	at     *diag.Error
}

func (a as) Error() string { return "as" }
func (a as) As(target any) bool {
	switch x := target.(type) {
	case *api.Errno:
		*x = a.number
		return true
	case **diag.Error:
		*x = a.at
		return true
	}
	return false
}

// fragile is somebody's error whose nil pointer panics whatever it is asked.
type fragile struct {
	text string
	err  error
}

func (f *fragile) Error() string { return f.text }
func (f *fragile) Unwrap() error { return f.err }

func wantPlace(t *testing.T, err error, at, line, col int) {
	t.Helper()
	if a, l, c, ok := diag.Place(err); !ok || a != at || l != line || c != col {
		t.Errorf("Place(%q) = %d, %d, %d, %t, want %d, %d, %d, true", err, a, l, c, ok, at, line, col)
	}
}

func wantNowhere(t *testing.T, err error) {
	t.Helper()
	if a, l, c, ok := diag.Place(err); ok || a != 0 || l != 0 || c != 0 {
		t.Errorf("Place(%T) = %d, %d, %d, %t, want nowhere", err, a, l, c, ok)
	}
}

func wantCode(t *testing.T, err error, want api.Errno) {
	t.Helper()
	if got := diag.Code(err); got != want {
		t.Errorf("Code(%T) = %d, want %d", err, got, want)
	}
}

func TestNewAtEveryPlace(t *testing.T) { // P2.1
	for _, src := range sources {
		places := []int{math.MinInt, -1 << 40, -2, -1, len(src) + 1, len(src) + 2, 1 << 40, math.MaxInt}
		for at := range len(src) + 1 {
			places = append(places, at)
		}
		for _, at := range places {
			err := diag.New([]byte(src), at, api.ErrSyntax)
			e, ok := err.(*diag.Error)
			if !ok || e == nil {
				t.Fatalf("New(%q, %d) is a %T", src, at, err)
			}
			place, line, col := placeOf(src, at)
			if want := (diag.Error{At: place, Line: line, Col: col, Err: api.ErrSyntax}); *e != want {
				t.Errorf("New(%q, %d) = %+v, want %+v", src, at, *e, want)
			}
		}
	}
}

func TestNewOfNoSource(t *testing.T) { // P2.1
	for _, src := range [][]byte{nil, {}} {
		for _, at := range []int{math.MinInt, -1, 0, 1, 5, math.MaxInt} {
			wantPlace(t, diag.New(src, at, api.ErrDeep), 0, 1, 1)
		}
	}
}

func TestNewOfEveryNumber(t *testing.T) { // P2.1
	for _, n := range numbers {
		for _, at := range []int{-1, 0, 3, 99} {
			err := diag.New([]byte("ab\nc"), at, n)
			if n == api.OK {
				if err != nil {
					t.Errorf("New of OK at %d = %v, want nil", at, err)
				}
				continue
			}
			e, ok := err.(*diag.Error)
			if !ok || e == nil || e.Err != n {
				t.Errorf("New of %d at %d = %v", n, at, err)
			}
		}
	}
}

func TestNewLeavesItsSourceAlone(t *testing.T) { // P2.1
	memory := []byte("ab\ncd\nef\n")
	before := slices.Clone(memory)
	src := memory[:4]
	one, two := diag.New(src, 99, api.ErrName), diag.New(src, 99, api.ErrName)
	if !slices.Equal(memory, before) {
		t.Errorf("New left %q of %q", memory, before)
	}
	wantPlace(t, one, 4, 2, 2) // what lies behind the source's length is none of it
	memory[0] = '\n'
	wantPlace(t, one, 4, 2, 2)
	one.(*diag.Error).Line = 77
	wantPlace(t, two, 4, 2, 2)
}

func TestErrorText(t *testing.T) { // P2.2
	for _, n := range numbers {
		for _, p := range [][2]int{{1, 1}, {2, 1}, {10, 65536}, {0, 0}, {-3, -40}, {math.MaxInt, math.MinInt}} {
			e := &diag.Error{At: 5, Line: p[0], Col: p[1], Err: n}
			if got, want := e.Error(), fmt.Sprintf("line %d, column %d: interlock: error %d", p[0], p[1], int(n)); got != want {
				t.Errorf("Error() = %q, want %q", got, want)
			}
		}
	}
	if got, want := diag.New([]byte("ab\nc"), 4, api.ErrName).Error(), "line 2, column 2: "+api.ErrName.Error(); got != want {
		t.Errorf("Error() = %q, want %q", got, want)
	}
}

func TestErrorUnwraps(t *testing.T) { // P2.2
	for _, n := range numbers {
		e := &diag.Error{At: 1, Line: 2, Col: 3, Err: n}
		if got, ok := e.Unwrap().(api.Errno); !ok || got != n {
			t.Errorf("Unwrap of %d = %v", n, e.Unwrap())
		}
		for _, o := range numbers {
			if got := errors.Is(e, o); got != (n == o) {
				t.Errorf("errors.Is(one of %d, %d) = %t", n, o, got)
			}
		}
	}
}

func TestNilError(t *testing.T) { // P2.2, P2.3, P2.4, P2.5
	var e *diag.Error
	if got := e.Error(); got != "" {
		t.Errorf("Error() of a nil one = %q", got)
	}
	if got := e.Unwrap(); got != nil {
		t.Errorf("Unwrap() of a nil one = %v", got)
	}
	wrapped := diag.In(e, "p")
	if wrapped == nil || wrapped.Error() != "p: " {
		t.Errorf("In of a nil one = %v", wrapped)
	}
	for _, err := range []error{e, wrapped, diag.In(wrapped, "q"), wrap{e}, many{e}} {
		wantCode(t, err, api.ErrArg)
		wantNowhere(t, err)
	}
}

func TestInText(t *testing.T) { // P2.3
	at := diag.New([]byte("ab\nc"), 3, api.ErrName)
	for _, err := range []error{api.ErrDeep, api.OK, at, errors.New(""), errors.New("x: y"), wrap{at}, many{}, diag.In(at, "in")} {
		for _, what := range []string{"", "p", "proc p", ": ", "a\nb", "\x00\xff", "%s%d", strings.Repeat("long ", 1000)} {
			in := diag.In(err, what)
			if in == nil {
				t.Fatalf("In(%q, %q) = nil", err, what)
			}
			if got, want := in.Error(), what+": "+err.Error(); got != want {
				t.Errorf("In tells %q, want %q", got, want)
			}
		}
	}
}

func TestInOfNil(t *testing.T) { // P2.3
	for _, what := range []string{"", "p"} {
		if got := diag.In(nil, what); got != nil {
			t.Errorf("In(nil, %q) = %v", what, got)
		}
	}
	if got := diag.In(diag.In(diag.New(nil, 0, api.OK), "p"), "q"); got != nil {
		t.Errorf("In of New of OK = %v", got)
	}
}

func TestInWraps(t *testing.T) { // P2.3
	plain := errors.New("plain")
	at := diag.New([]byte("ab\nc"), 3, api.ErrName)
	for _, err := range []error{plain, at, api.ErrDeep, wrap{plain}} {
		in := diag.In(err, "p")
		if got := errors.Unwrap(in); got != err {
			t.Errorf("In unwraps to %v, want %v", got, err)
		}
		if !errors.Is(diag.In(in, "q"), err) || errors.Is(in, errors.New("plain")) {
			t.Errorf("errors.Is does not find %v alone", err)
		}
	}
	var e *diag.Error
	if !errors.As(diag.In(diag.In(at, "p"), "q"), &e) || e != at.(*diag.Error) {
		t.Errorf("errors.As does not find the very Error that was wrapped")
	}
}

func TestInOfWhatIsShared(t *testing.T) { // P2.3
	err := diag.In(api.ErrName, "p")
	one, two := diag.In(err, "one"), diag.In(err, "two")
	for got, want := range map[string]string{err.Error(): "p: ", one.Error(): "one: p: ", two.Error(): "two: p: "} {
		if got != want+api.ErrName.Error() {
			t.Errorf("In tells %q, want %q first", got, want)
		}
	}
	if again := one.Error(); again != "one: p: "+api.ErrName.Error() {
		t.Errorf("In tells %q the second time", again)
	}
}

func TestCodeOfEveryNumber(t *testing.T) { // P2.4
	for _, n := range numbers {
		wantCode(t, n, n)
		wantCode(t, &diag.Error{Err: n}, n)
		wantCode(t, diag.In(n, "p"), n)
		wantCode(t, wrap{wrap{diag.In(wrap{n}, "p")}}, n)
		wantCode(t, fmt.Errorf("q: %w", diag.New([]byte("\n"), 1, n)), codeOfNew(n))
	}
}

// codeOfNew: New of OK is nil, and what wraps that is of no number.
func codeOfNew(n api.Errno) api.Errno {
	if n == api.OK {
		return api.ErrArg
	}
	return n
}

func TestCodeOfNoNumber(t *testing.T) { // P2.4
	wantCode(t, nil, api.OK)
	plain := errors.New("plain")
	for _, err := range []error{plain, diag.In(plain, "p"), wrap{plain}, wrap{nil}, many{}, many(nil), many{nil, plain}, errors.Join(plain, wrap{nil}), fmt.Errorf("50"), errors.New(api.ErrSyntax.Error())} {
		wantCode(t, err, api.ErrArg)
		wantCode(t, diag.In(err, "q"), api.ErrArg)
		wantNowhere(t, err)
	}
}

func TestCodeIsTheFirst(t *testing.T) { // P2.4
	plain := errors.New("plain")
	at := diag.New([]byte("ab\nc"), 3, api.ErrName)
	wantCode(t, many{plain, nil, diag.In(api.ErrDeep, "p"), at, api.ErrByte}, api.ErrDeep)
	wantCode(t, many{many{}, wrap{at}, api.ErrDeep}, api.ErrName)
	wantCode(t, errors.Join(plain, api.OK, api.ErrDeep), api.OK)
	wantCode(t, fmt.Errorf("%w and %w", api.ErrBusy, at), api.ErrBusy)
	wantCode(t, as{number: api.ErrChop}, api.ErrChop)
	wantCode(t, diag.In(wrap{as{number: api.ErrChop}}, "p"), api.ErrChop)
}

func TestPlace(t *testing.T) { // P2.5
	for _, src := range sources {
		for at := -1; at <= len(src)+1; at++ {
			place, line, col := placeOf(src, at)
			wantPlace(t, diag.New([]byte(src), at, api.ErrByte), place, line, col)
		}
	}
	byHand := &diag.Error{At: -7, Line: math.MaxInt, Col: math.MinInt}
	wantPlace(t, byHand, -7, math.MaxInt, math.MinInt)
	wantPlace(t, &diag.Error{}, 0, 0, 0)
}

func TestPlaceOfWhatIsWrapped(t *testing.T) { // P2.5
	one, two := diag.New([]byte("ab\nc"), 4, api.ErrName), diag.New([]byte("ab\nc"), 1, api.ErrDeep)
	for _, err := range []error{
		one, diag.In(one, "p"), wrap{one}, wrap{diag.In(wrap{one}, "p")}, many{api.ErrByte, nil, wrap{one}, two},
		errors.Join(one, two), fmt.Errorf("%w: %w", api.ErrBusy, one), as{at: one.(*diag.Error)}, diag.In(many{many{}, one}, "q"),
	} {
		wantPlace(t, err, 4, 2, 2)
	}
}

func TestNowhere(t *testing.T) { // P2.5
	wantNowhere(t, nil)
	for _, n := range numbers {
		wantNowhere(t, n)
		wantNowhere(t, diag.In(wrap{n}, "p"))
	}
	wantNowhere(t, as{number: api.ErrName})
	wantNowhere(t, errors.New("line 2, column 1: interlock: error 50"))
}

func TestErrorsThatPanic(t *testing.T) { // P2.3, P2.4, P2.5, as no call panics
	var broken *fragile
	for _, err := range []error{broken, wrap{broken}, many{errors.New("plain"), broken}} {
		for _, e := range []error{err, diag.In(err, "p")} {
			wantCode(t, e, api.ErrArg)
			wantNowhere(t, e)
		}
	}
	if got := diag.In(diag.In(broken, "p"), "q").Error(); got != "q: p: " {
		t.Errorf("In of one without a text tells %q", got)
	}
	at := diag.New([]byte("ab\nc"), 3, api.ErrName)
	wantCode(t, many{at, broken}, api.ErrName) // what is found ahead of it is found
	wantPlace(t, many{at, broken}, 3, 2, 1)
}

func TestWrappedOftenItsNumberAndPlaceStay(t *testing.T) { // P2.6
	at := diag.New([]byte("ab\nc\n\nd"), 6, api.ErrArity)
	text := at.Error()
	for n, err := 0, at; n < 200; n++ {
		wantCode(t, err, api.ErrArity)
		wantPlace(t, err, 6, 4, 1)
		if got := err.Error(); got != text {
			t.Fatalf("wrapped %d times it tells %q, want %q", n, got, text)
		}
		what := fmt.Sprint("in ", n)
		err, text = diag.In(err, what), what+": "+text
		if n%3 == 0 {
			err, text = wrap{err}, "wrap"
		}
	}
	for _, n := range numbers {
		wantCode(t, diag.In(diag.In(diag.In(n, "a"), "b"), "c"), n)
		wantNowhere(t, diag.In(diag.In(diag.In(n, "a"), "b"), "c"))
	}
}

func TestWrappedVeryOften(t *testing.T) { // P2.6
	const often = 200000
	err := diag.New([]byte("ab\nc"), 3, api.ErrName)
	text := err.Error()
	for range often {
		err = diag.In(err, "p")
	}
	wantCode(t, err, api.ErrName)
	if at, line, col, ok := diag.Place(err); !ok || at != 3 || line != 2 || col != 1 {
		t.Errorf("Place = %d, %d, %d, %t", at, line, col, ok)
	}
	if err.Error() != strings.Repeat("p: ", often)+text {
		t.Errorf("wrapped %d times it tells something else", often)
	}
}

func TestPlacesRise(t *testing.T) { // P2.6
	for _, src := range sources {
		lastLine, lastCol := 0, 0
		for at := range len(src) + 1 {
			_, line, col, ok := diag.Place(diag.New([]byte(src), at, api.ErrSyntax))
			if !ok || line < lastLine || line == lastLine && col <= lastCol {
				t.Errorf("of %q: place %d is in line %d, column %d, the one ahead in %d, %d", src, at, line, col, lastLine, lastCol)
			}
			lastLine, lastCol = line, col
		}
	}
}

func TestChapterExamples(t *testing.T) { // P2.1, P2.3, P2.4
	wantPlace(t, diag.New([]byte("ab\nc"), 3, api.ErrSyntax), 3, 2, 1)
	wantPlace(t, diag.New([]byte(""), 5, api.ErrDeep), 0, 1, 1)
	wantCode(t, diag.In(diag.New([]byte("ab\nc"), 3, api.ErrSyntax), "p"), api.ErrSyntax)
	wantCode(t, nil, api.OK)
}
