package pieces_test

import (
	"fmt"
	"math"
	"math/rand"
	"reflect"
	"runtime"
	"slices"
	"strings"
	"testing"

	"interlock/api"
	"interlock/code"
	"interlock/lower"
	"interlock/names"
	"interlock/parse"
	"interlock/pieces"
)

// short cuts what a failed test shows.
func short(x any) string {
	s := fmt.Sprintf("%v", x)
	if len(s) > 1600 {
		return s[:800] + " .. " + s[len(s)-800:]
	}
	return s
}

// ops are the instructions that a row's text may name.
var ops = map[string]uint8{"emit": code.Emit, "piece": code.Piece, "end": code.End, "jump": code.Jump, "unless": code.Unless,
	"begin": code.Begin, "next": code.Next, "let": code.Let, "rollback": code.Rollback}

// row are instructions from a text: each one's name, and > with its To right behind it.
func row(text string) []code.Instr {
	var l []code.Instr
	for _, word := range strings.Fields(text) {
		name, to, _ := strings.Cut(word, ">")
		x := code.Instr{Op: ops[name]}
		if x.Op == 0 {
			panic(word)
		}
		fmt.Sscan(to, &x.To)
		l = append(l, x)
	}
	return l
}

// rowText is a row as its text.
func rowText(l []code.Instr) string {
	var words []string
	for _, x := range l {
		word := fmt.Sprint(x.Op)
		for name, op := range ops {
			if op == x.Op {
				word = name
			}
		}
		if x.To != 0 {
			word += fmt.Sprint(">", x.To)
		}
		words = append(words, word)
	}
	return strings.Join(words, " ")
}

// unitsText are units as a text.
func unitsText(all []pieces.Unit) string {
	var words []string
	for _, u := range all {
		words = append(words, fmt.Sprintf("%d-%d", u.From, u.To))
	}
	return strings.Join(words, " ")
}

// The ways: that in which units are cut, and those in which they are whole, by name or as they are none.
var wholes = []uint8{api.Whole, 2, 3, 15, 16, 128, 254, 255}

func wantUnits(t *testing.T, l []code.Instr, want string) {
	t.Helper()
	if got := pieces.Units(l, api.Pieces); unitsText(got) != want {
		t.Errorf("%s: %s, want %s", short(rowText(l)), unitsText(got), want)
	}
	whole := ""
	if len(l) > 0 {
		whole = fmt.Sprintf("0-%d", len(l))
	}
	for _, way := range wholes {
		if got := pieces.Units(l, way); unitsText(got) != whole {
			t.Errorf("%s: run %d: %s", short(rowText(l)), way, unitsText(got))
		}
	}
}

func wantWithout(t *testing.T, text, want string, drop ...int) {
	t.Helper()
	if got := pieces.Without(row(text), drop...); rowText(got) != want {
		t.Errorf("%s without %v: %s, want %s", text, drop, rowText(got), want)
	}
}

// The chapter's examples.
func TestExamples(t *testing.T) { // P10.1, P10.3
	wantUnits(t, row("emit piece emit end"), "0-2 2-4")
	l := pieces.Without(row("piece end"), 0)
	wantUnits(t, l, "0-1")
	if rowText(l) != "end" {
		t.Errorf("%v", l)
	}
}

// Units.

// rows are texts of instructions with their units in pieces.
var rows = [][2]string{
	{"", ""},
	{"end", "0-1"},
	{"emit", "0-1"},
	{"emit end", "0-2"},
	{"emit let rollback jump>3 end", "0-5"},
	{"piece", "0-1"},
	{"piece end", "0-1 1-2"},
	{"piece emit end", "0-1 1-3"},
	{"emit piece", "0-2"},
	{"emit piece end", "0-2 2-3"},
	{"emit piece emit end", "0-2 2-4"},
	{"piece piece", "0-1 1-2"},
	{"piece piece piece", "0-1 1-2 2-3"},
	{"piece piece end", "0-1 1-2 2-3"},
	{"emit piece piece emit end", "0-2 2-3 3-5"},
	{"emit piece emit piece emit end", "0-2 2-4 4-6"},
	{"piece emit piece emit piece", "0-1 1-3 3-5"},
	{"emit emit piece emit emit emit piece end", "0-3 3-7 7-8"},
	{"unless>3 emit emit piece begin>7 emit next>5 piece jump>9 end", "0-4 4-8 8-10"},
	// An End that is not the last one ends no unit, as it is not right.
	{"end end", "0-2"},
	{"end emit", "0-2"},
	{"end piece end", "0-2 2-3"},
	{"emit end piece emit", "0-3 3-4"},
}

func TestUnits(t *testing.T) { // P10.1
	for _, x := range rows {
		wantUnits(t, row(x[0]), x[1])
	}
	if len(pieces.Units([]code.Instr{}, api.Pieces)) != 0 || len(pieces.Units(nil, api.Whole)) != 0 || len(pieces.Units(nil, 7)) != 0 {
		t.Error("units of no instructions")
	}
	// Only what is a Piece is one.
	for op := range 256 {
		x := code.Instr{Op: uint8(op)}
		if got := len(pieces.Units([]code.Instr{x, x, x}, api.Pieces)); got != 1 && op != int(code.Piece) {
			t.Errorf("three of Op %d: %d units", op, got)
		}
	}
}

// Each way that is not api.Pieces is Whole.
func TestEachWay(t *testing.T) { // P10.1, P10.2
	l := row("emit piece emit piece end")
	for way := range 256 {
		want, last := "0-5", 0
		if way == int(api.Pieces) {
			want, last = "0-2 2-4 4-5", 2
		}
		if got := pieces.Units(l, uint8(way)); unitsText(got) != want {
			t.Errorf("run %d: %v", way, got)
		}
		if got := pieces.Of(l, uint8(way), 4); got != last {
			t.Errorf("run %d: the last one stands in %d", way, got)
		}
	}
}

// Of.

// outside are numbers that no place of so many instructions has.
func outside(count int) []int {
	return []int{math.MinInt, math.MinInt32, -2, -1, count, count + 1, count + 2, math.MaxInt32, math.MaxInt}
}

func TestOf(t *testing.T) { // P10.2
	for _, x := range rows {
		l := row(x[0])
		for _, way := range append([]uint8{api.Pieces}, wholes...) {
			for at := range l {
				if got, want := pieces.Of(l, way, at), numberAs(l, way, at); got != want {
					t.Errorf("%s: run %d: at %d: %d, want %d", x[0], way, at, got, want)
				}
			}
			for _, at := range outside(len(l)) {
				if got := pieces.Of(l, way, at); got != -1 {
					t.Errorf("%s: run %d: at %d: %d", x[0], way, at, got)
				}
			}
		}
	}
	for at, want := range []int{0, 0, 0, 1, 2, 2, 2, 3, -1} {
		if got := pieces.Of(row("unless>2 emit piece piece begin>6 next>5 piece end"), api.Pieces, at); got != want {
			t.Errorf("at %d: %d, want %d", at, got, want)
		}
	}
	if pieces.Of(nil, api.Whole, 0) != -1 || pieces.Of(nil, api.Pieces, 0) != -1 || pieces.Of([]code.Instr{}, 9, 0) != -1 {
		t.Error("of no instructions")
	}
}

// Without.

func TestWithout(t *testing.T) { // P10.3
	wantWithout(t, "", "")
	wantWithout(t, "", "", 0, 1, -1)
	wantWithout(t, "emit end", "emit end", 0)
	wantWithout(t, "piece", "", 0)
	wantWithout(t, "piece", "piece", 1)
	wantWithout(t, "piece piece", "", 1, 0)
	const three = "emit piece let piece rollback piece end"
	for _, x := range []struct {
		drop []int
		want string
	}{
		{nil, three},
		{[]int{}, three},
		{[]int{0}, "emit let piece rollback piece end"},
		{[]int{1}, "emit piece let rollback piece end"},
		{[]int{2}, "emit piece let piece rollback end"},
		{[]int{0, 1}, "emit let rollback piece end"},
		{[]int{1, 0}, "emit let rollback piece end"},
		{[]int{0, 2}, "emit let piece rollback end"},
		{[]int{2, 1}, "emit piece let rollback end"},
		{[]int{0, 1, 2}, "emit let rollback end"},
		{[]int{2, 0, 1}, "emit let rollback end"},
		// Those that are named again, and those of none.
		{[]int{1, 1}, "emit piece let rollback piece end"},
		{[]int{1, 1, 1, 1}, "emit piece let rollback piece end"},
		{[]int{2, 0, 2, 0}, "emit let piece rollback end"},
		{[]int{-1}, three},
		{[]int{3}, three},
		{[]int{6}, three},
		{[]int{math.MinInt, math.MaxInt, -1, 3, 4, 5, 6, 7}, three},
		{[]int{3, 2, -1, 9, 2}, "emit piece let piece rollback end"},
		{[]int{-1, 0, 1 << 32, 1<<32 + 1}, "emit let piece rollback piece end"},
	} {
		wantWithout(t, three, x.want, x.drop...)
	}
}

// Where a jump goes on that goes to what is ahead of, at, just behind, and far behind what is dropped.
func TestWhereJumpsGoOn(t *testing.T) { // P10.3
	// Forward and backward, within pieces and (which is not right) over them.
	wantWithout(t, "unless>2 emit piece jump>4 end", "unless>2 emit jump>3 end", 0)
	wantWithout(t, "jump>1 piece jump>3 piece jump>5 end", "jump>1 jump>2 piece jump>4 end", 0)
	wantWithout(t, "jump>1 piece jump>3 piece jump>5 end", "jump>1 piece jump>3 jump>4 end", 1)
	wantWithout(t, "jump>1 piece jump>3 piece jump>5 end", "jump>1 jump>2 jump>3 end", 0, 1)
	wantWithout(t, "piece begin>4 emit next>2 end", "begin>3 emit next>1 end", 0)
	wantWithout(t, "piece piece begin>5 emit next>3 piece end", "piece begin>4 emit next>2 end", 0, 2)
	wantWithout(t, "emit jump piece next>1 next>2 next>3 next>4 end", "emit jump next>1 next>2 next>2 next>3 end", 0)
	wantWithout(t, "piece piece piece jump>3 jump>2 jump>1 end", "piece jump>1 jump jump end", 0, 1)
	// Each To, of each instruction: as many less as there are dropped ones ahead of it, if it is a place or none.
	const text = "emit piece emit piece piece emit piece emit end"
	places := []int{1, 3, 4, 6}
	for op := uint8(0); op < 20; op++ {
		for _, to := range append(outside(9), 0, 1, 2, 3, 4, 5, 6, 7, 8) {
			for set := range 16 {
				for at := range 9 {
					l := row(text)
					if l[at].Op == code.Piece || op == code.Piece {
						continue
					}
					l[at].Op, l[at].To = op, to
					var drop []int
					less, gone := 0, 0
					for number, place := range places {
						if set>>number&1 == 0 {
							continue
						}
						drop = append(drop, number)
						if place < to {
							less++
						}
						if place < at {
							gone++
						}
					}
					got := pieces.Without(l, drop...)
					if len(got) != len(l)-len(drop) || got[at-gone].Op != op || got[at-gone].To != to-less {
						t.Fatalf("Op %d at %d goes on at %d: without %v: %s", op, at, to, drop, rowText(got))
					}
				}
			}
		}
	}
	// A To of a Piece that stays is one as well.
	wantWithout(t, "piece piece>2 piece>1 end>3", "piece>1 end>1", 0, 2)
}

// full is an instruction with something in each field.
func full(op uint8) code.Instr {
	return code.Instr{Op: op, Node: 1, Mode: api.SIX, Table: 3, Row: true, Col: 4, Var: 5, To: 6, Equal: true, From: 7, Upto: 8,
		Key:  []code.Term{{Kind: code.Number, N: 9}, {Kind: 77, N: 1, Var: 2}},
		Vals: [][]code.Term{{{Kind: code.Var, Var: 3}}, {}, nil, {{Kind: code.Neg}, {Kind: code.Plus}}}}
}

func TestOtherFieldsStay(t *testing.T) { // P10.3
	for op := range 256 {
		for _, drop := range [][]int{nil, {0}, {1}, {0, 1}} {
			l := []code.Instr{full(uint8(op)), {Op: code.Piece}, full(uint8(op)), full(uint8(op)), {Op: code.End}}
			got := pieces.Without(l, drop...)
			if want := withoutAs(l, drop...); !reflect.DeepEqual(got, want) {
				t.Errorf("without %v: %v, want %v", drop, got, want)
			}
		}
	}
	// Each field alone, and none.
	of := reflect.TypeFor[code.Instr]()
	for i := range of.NumField() {
		var x code.Instr
		reflect.ValueOf(&x).Elem().Field(i).Set(reflect.ValueOf(full(code.Emit)).Field(i))
		l := []code.Instr{{Op: code.Piece}, x, {}}
		if got := pieces.Without(l, 0); !reflect.DeepEqual(got, withoutAs(l, 0)) || len(got) != 2 {
			t.Errorf("%s: %v", of.Field(i).Name, got)
		}
	}
}

// All rows.

// subsets are the lists of numbers below count, each in two orders.
func subsets(count int) [][]int {
	var all [][]int
	for set := range 1 << count {
		var one []int
		for i := range count {
			if set>>i&1 == 1 {
				one = append(one, i)
			}
		}
		back := slices.Clone(one)
		slices.Reverse(back)
		all = append(all, one, back)
	}
	return all
}

// hold holds the package against the second reading.
func hold(t *testing.T, l []code.Instr, drops ...[]int) {
	t.Helper()
	for _, way := range []uint8{api.Whole, api.Pieces, 2} {
		if got, want := pieces.Units(l, way), unitsAs(l, way); !slices.Equal(got, want) {
			t.Fatalf("%s: run %d: %v, want %v", short(rowText(l)), way, got, want)
		}
		for at := -1; at <= len(l); at++ {
			if got, want := pieces.Of(l, way, at), numberAs(l, way, at); got != want {
				t.Fatalf("%s: run %d: at %d: %d, want %d", short(rowText(l)), way, at, got, want)
			}
		}
	}
	for _, drop := range drops {
		if got, want := pieces.Without(l, drop...), withoutAs(l, drop...); !reflect.DeepEqual(got, want) && len(got)+len(want) > 0 {
			t.Fatalf("%s without %v: %s, want %s", short(rowText(l)), drop, short(rowText(got)), short(rowText(want)))
		}
	}
}

func TestAllShortRows(t *testing.T) { // P10.1, P10.2, P10.3
	kinds := []uint8{code.Emit, code.Piece, code.Jump, code.End}
	for size := range 6 {
		count := 1
		for range size {
			count *= len(kinds)
		}
		for number := range count {
			var l []code.Instr
			for i := range size {
				x := code.Instr{Op: kinds[number%len(kinds)], Node: i}
				if x.Op == code.Jump {
					x.To = (number + i) % (size + 2)
				}
				l = append(l, x)
				number /= len(kinds)
			}
			hold(t, l, subsets(countAs(l))...)
		}
	}
}

// drawTerms are some terms, which are right or not.
func drawTerms(r *rand.Rand) []code.Term {
	var l []code.Term
	for range r.Intn(4) {
		l = append(l, code.Term{Kind: uint8(r.Intn(8)), N: int64(r.Intn(9) - 4), Var: r.Intn(4)})
	}
	return l
}

// drawRow is a row of instructions, which are hardly ever right.
func drawRow(r *rand.Rand) []code.Instr {
	var l []code.Instr
	size := r.Intn(20)
	for range size {
		x := code.Instr{Op: uint8(r.Intn(18)), Node: r.Intn(50), Mode: api.Mode(r.Intn(7)), Table: r.Intn(3), Row: r.Intn(2) == 0,
			Col: r.Intn(3), Var: r.Intn(3), To: r.Intn(size+6) - 3, Equal: r.Intn(2) == 0, From: r.Int63(), Upto: -r.Int63(), Key: drawTerms(r)}
		for range r.Intn(3) {
			x.Vals = append(x.Vals, drawTerms(r))
		}
		if r.Intn(3) == 0 {
			x.Op = code.Piece
		}
		l = append(l, x)
	}
	return l
}

// drawDrop are numbers of Pieces, some of none, some again, in any order.
func drawDrop(r *rand.Rand, count int) []int {
	var drop []int
	for range r.Intn(count + 3) {
		drop = append(drop, r.Intn(count+4)-2)
	}
	return drop
}

func TestDrawnRows(t *testing.T) { // P10.1, P10.2, P10.3
	r := rand.New(rand.NewSource(101))
	dropped, stayed := 0, 0
	for range 20000 {
		l := drawRow(r)
		drop := drawDrop(r, countAs(l))
		hold(t, l, drop)
		left := countAs(pieces.Without(l, drop...))
		stayed += left
		dropped += countAs(l) - left
	}
	if dropped < 20000 || stayed < 20000 {
		t.Errorf("%d dropped, %d stayed: the test is not worth much", dropped, stayed)
	}
}

// What follows.

// Of right instructions: which tables and variables those that are drawn have.
var tables = []int{2, 1}

const vars = 3

func number(n int64) []code.Term { return []code.Term{{Kind: code.Number, N: n}} }

func variable(v int) []code.Term { return []code.Term{{Kind: code.Var, Var: v}} }

// drawStep is a right instruction that goes on right behind it.
func drawStep(r *rand.Rand) code.Instr {
	switch r.Intn(8) {
	case 0:
		return code.Instr{Op: code.Ask, Mode: api.IX, Table: r.Intn(2)}
	case 1:
		return code.Instr{Op: code.Ask, Mode: api.X, Table: r.Intn(2), Row: true, Key: variable(r.Intn(vars))}
	case 2:
		return code.Instr{Op: code.Free, Table: r.Intn(2), Row: true, Key: number(5)}
	case 3:
		return code.Instr{Op: code.Read, Table: 0, Key: number(1), Col: r.Intn(2), Var: r.Intn(vars)}
	case 4:
		return code.Instr{Op: code.Put, Table: 0, Key: number(7), Vals: [][]code.Term{number(1), variable(2)}}
	case 5:
		return code.Instr{Op: code.Scan, Table: 1, Var: r.Intn(vars)}
	case 6:
		return code.Instr{Op: code.Rollback}
	}
	return code.Instr{Op: code.Emit, Vals: [][]code.Term{variable(r.Intn(vars))}}
}

// drawJump is a right instruction that goes on from from up to to, that left out.
func drawJump(r *rand.Rand, from, to int) code.Instr {
	x := code.Instr{To: from + r.Intn(to-from)}
	switch r.Intn(4) {
	case 0:
		x.Op = code.Jump
	case 1:
		x.Op, x.Equal, x.Vals = code.Unless, r.Intn(2) == 0, [][]code.Term{variable(0), number(4)}
	case 2:
		x.Op, x.Var, x.From, x.Upto = code.Begin, r.Intn(vars), 1, 3
	case 3:
		x.Op, x.Var, x.Upto = code.Next, r.Intn(vars), 3
	}
	return x
}

// drawRight is a row of right instructions: each jump stays within its unit.
func drawRight(r *rand.Rand) []code.Instr {
	var l []code.Instr
	units := 1 + r.Intn(5)
	for unit := range units {
		from := len(l)
		to := from + 1 + r.Intn(5)
		for len(l) < to-1 {
			x := drawStep(r)
			if r.Intn(2) == 0 {
				x = drawJump(r, from, to)
			}
			x.Node = len(l) + 3
			l = append(l, x)
		}
		if unit < units-1 {
			l = append(l, code.Instr{Op: code.Piece, Node: len(l) + 3})
		}
	}
	return append(l, code.Instr{Op: code.End})
}

// holdRight holds right instructions against what follows.
func holdRight(t *testing.T, l []code.Instr, tables []int, vars int, drop ...int) {
	t.Helper()
	if !code.Right(l, tables, vars) {
		t.Fatalf("not right: %s", short(rowText(l)))
	}
	count := countAs(l)
	isNamed := map[int]bool{}
	for _, number := range drop {
		if 0 <= number && number < count {
			isNamed[number] = true
		}
	}
	left := pieces.Without(l, drop...)
	if !code.Right(left, tables, vars) {
		t.Fatalf("%s without %v is not right: %s", short(rowText(l)), drop, short(rowText(left)))
	}
	if got := len(pieces.Units(left, api.Pieces)); got != len(pieces.Units(l, api.Pieces))-len(isNamed) || got != count-len(isNamed)+1 {
		t.Fatalf("%s without %v: %d units", short(rowText(l)), drop, got)
	}
	all := make([]int, count)
	for i := range all {
		all[i] = i
	}
	none := pieces.Without(l, all...)
	if !slices.Equal(pieces.Units(none, api.Pieces), pieces.Units(none, api.Whole)) || !code.Right(none, tables, vars) {
		t.Fatalf("%s without all: %s", short(rowText(l)), short(rowText(none)))
	}
	for at := range none {
		if pieces.Of(none, api.Pieces, at) != 0 {
			t.Fatalf("%s without all: at %d", short(rowText(l)), at)
		}
	}
	if !code.Same(pieces.Without(l), l) {
		t.Fatalf("%s without none: %v", short(rowText(l)), pieces.Without(l))
	}
	// What is dropped in two goes is what is dropped in one.
	if half := count / 2; !code.Same(pieces.Without(pieces.Without(l, all[half:]...), all[:half]...), none) {
		t.Fatalf("%s without all, in two goes", short(rowText(l)))
	}
}

// holdCovered tells whether units cover all instructions, each once, and Of tells them.
func holdCovered(t *testing.T, l []code.Instr) {
	t.Helper()
	for _, way := range []uint8{api.Whole, api.Pieces, 200} {
		next := 0
		for number, u := range pieces.Units(l, way) {
			if u.From != next || u.To <= u.From {
				t.Fatalf("%s: run %d: the unit %d is %v", short(rowText(l)), way, number, u)
			}
			for ; next < u.To; next++ {
				if pieces.Of(l, way, next) != number {
					t.Fatalf("%s: run %d: %d is not of %d", short(rowText(l)), way, next, number)
				}
			}
		}
		if next != len(l) {
			t.Fatalf("%s: run %d: %d are covered", short(rowText(l)), way, next)
		}
	}
}

func TestRightRows(t *testing.T) { // P10.5
	r := rand.New(rand.NewSource(102))
	dropped, jumps := 0, 0
	for range 10000 {
		l := drawRight(r)
		drop := drawDrop(r, countAs(l))
		holdRight(t, l, tables, vars, drop...)
		holdCovered(t, l)
		hold(t, l, drop)
		dropped += len(l) - len(pieces.Without(l, drop...))
		for _, x := range l {
			if x.To != 0 {
				jumps++
			}
		}
	}
	for range 5000 {
		holdCovered(t, drawRow(r))
	}
	if dropped < 5000 || jumps < 5000 {
		t.Errorf("%d dropped, %d jumps: the test is not worth much", dropped, jumps)
	}
}

// sources are procedures whose pieces have each kind of statement.
var sources = []string{
	"proc p() { }",
	"proc p() { chop; }",
	"proc p() { chop; chop; chop; }",
	"table t(c); proc p(a) { chop; if a < 1 { read x = t[a].c; emit x; } else { set t[a].c = 2; } chop; for i = 1 to 3 { emit i; } }",
	"table t(c, d); proc p(a) { for i = 1 to 2 { if i == a { } else { delete t[i]; } } chop; scan x = t.d; chop; chop; put t[a](1, x); " +
		"for i = 1 to 2 { for j = 3 to 4 { if i < j { emit a; } } } chop; if a < 2 { rollback; } chop; }",
}

// Those of whole procedures: without its chops a procedure's instructions are those of its source without them.
func TestProcedures(t *testing.T) { // P10.3, P10.5
	for _, src := range sources {
		p := mustResolve(t, src)
		l := lower.Proc(p, 0)
		var tables []int
		for _, x := range p.Tables {
			tables = append(tables, len(x.Cols))
		}
		for _, drop := range subsets(countAs(l)) {
			holdRight(t, l, tables, len(p.Procs[0].Vars), drop...)
			hold(t, l, drop)
			if want := lower.Proc(mustResolve(t, withoutChops(src, drop)), 0); !code.Same(pieces.Without(l, drop...), want) {
				t.Errorf("%s without %v: %s, want %s", src, drop, rowText(pieces.Without(l, drop...)), rowText(want))
			}
		}
		holdCovered(t, l)
	}
}

func mustResolve(t *testing.T, src string) names.Program {
	t.Helper()
	x, err := parse.Parse([]byte(src))
	if err != nil {
		t.Fatalf("Parse(%s) = %v", src, err)
	}
	p, err := names.Resolve([]byte(src), x)
	if err != nil {
		t.Fatalf("Resolve(%s) = %v", src, err)
	}
	return p
}

// withoutChops is a source without the chops of these numbers.
func withoutChops(src string, drop []int) string {
	parts := strings.Split(src, "chop;")
	for i := range parts[:len(parts)-1] {
		if !slices.Contains(drop, i) {
			parts[i] += "chop;"
		}
	}
	return strings.Join(parts, "")
}

// Memory.

// behind is a list with room behind it, which is filled with what would spoil it.
func behind[T any](l []T, filling ...T) []T {
	return append(slices.Clone(l), filling...)[:len(l)]
}

func cloneRow(l []code.Instr) []code.Instr {
	l = slices.Clone(l)
	for i, x := range l {
		l[i].Key, l[i].Vals = slices.Clone(x.Key), slices.Clone(x.Vals)
		for k, value := range x.Vals {
			l[i].Vals[k] = slices.Clone(value)
		}
	}
	return l
}

// roomy is a row with room behind each list: behind the last instruction there are Pieces.
func roomy(l []code.Instr) []code.Instr {
	l = behind(l, code.Instr{Op: code.Piece}, code.Instr{Op: code.Emit, To: 99}, code.Instr{Op: code.Piece})
	for i, x := range l {
		l[i].Key = behind(x.Key, code.Term{Kind: code.Neg}, code.Term{Kind: code.Plus})
		l[i].Vals = behind(x.Vals, []code.Term{{Kind: code.Number}})
		for k, value := range x.Vals {
			l[i].Vals[k] = behind(value, code.Term{Kind: code.Times}, code.Term{Kind: 99})
		}
	}
	return l
}

// laid tells all of a value's memory, what lies behind its lists included.
func laid(x any) string {
	var b strings.Builder
	var tell func(v reflect.Value)
	tell = func(v reflect.Value) {
		switch v.Kind() {
		case reflect.Slice:
			fmt.Fprintf(&b, "[%d:", v.Len())
			all := v.Slice(0, v.Cap())
			for i := range all.Len() {
				tell(all.Index(i))
			}
			b.WriteString("]")
		case reflect.Struct:
			b.WriteString("{")
			for i := range v.NumField() {
				tell(v.Field(i))
			}
			b.WriteString("}")
		default:
			fmt.Fprintf(&b, "%v ", v)
		}
	}
	tell(reflect.ValueOf(x))
	return b.String()
}

// spans tells of each list of an answer, those within it too, from where to where its memory goes.
func spans(x any) [][2]uintptr {
	var all [][2]uintptr
	var look func(v reflect.Value)
	look = func(v reflect.Value) {
		switch v.Kind() {
		case reflect.Slice:
			if v.Cap() > 0 {
				first := v.Pointer()
				all = append(all, [2]uintptr{first, first + uintptr(v.Cap())*v.Type().Elem().Size()})
			}
			for i := range v.Len() {
				look(v.Index(i))
			}
		case reflect.Struct:
			for i := range v.NumField() {
				look(v.Field(i))
			}
		}
	}
	look(reflect.ValueOf(x))
	return all
}

// eachRow hands out rows that are right, some that are not, and drop lists for them.
func eachRow(seed int64, count int, try func(l []code.Instr, drop []int)) {
	r := rand.New(rand.NewSource(seed))
	for range count {
		l := drawRow(r)
		if r.Intn(2) == 0 {
			l = drawRight(r)
		}
		try(l, drawDrop(r, countAs(l)))
	}
	l := []code.Instr{full(code.Put), {Op: code.Piece}, full(code.Piece), full(code.Unless), full(code.End)}
	try(l, nil)
	try(l, []int{1, 0, 1})
	try(l, []int{0})
	try(nil, nil)
	try(nil, []int{0})
}

func TestWhatIsHandedInIsOnlyRead(t *testing.T) { // P10.4
	eachRow(103, 2000, func(l []code.Instr, drop []int) {
		m, d := roomy(l), behind(drop, 0, 1, 2)
		before, dropped := laid(m), laid(d)
		for _, way := range []uint8{api.Whole, api.Pieces, 3} {
			if got := pieces.Units(m, way); !slices.Equal(got, unitsAs(l, way)) {
				t.Fatalf("%s: run %d: what lies behind was asked: %v", rowText(l), way, got)
			}
			for at := -1; at <= cap(m); at++ {
				if got := pieces.Of(m, way, at); got != numberAs(l, way, at) {
					t.Fatalf("%s: run %d: what lies behind was asked: %d", rowText(l), way, got)
				}
			}
		}
		if got := pieces.Without(m, d...); !code.Same(got, withoutAs(l, drop...)) {
			t.Fatalf("%s without %v: what lies behind was asked: %s", rowText(l), drop, rowText(got))
		}
		if laid(m) != before || laid(d) != dropped {
			t.Fatalf("%s without %v: written to", rowText(l), drop)
		}
	})
}

// Nothing of an answer lies where something of another one, of what was handed in, or of itself does.
func TestTheAnswerIsNewMemory(t *testing.T) { // P10.4
	eachRow(104, 1000, func(l []code.Instr, drop []int) {
		m, d := roomy(l), behind(drop, 0, 1, 2)
		// All are held, that none lies where one lay that is gone.
		answers := [][]code.Instr{pieces.Without(m), pieces.Without(m, d...), pieces.Without(m, d...)}
		units := [][]pieces.Unit{pieces.Units(m, api.Pieces), pieces.Units(m, api.Pieces), pieces.Units(m, api.Whole), pieces.Units(m, api.Whole)}
		lists := slices.Concat(spans(m), spans(d), spans(answers), spans(units))
		slices.SortFunc(lists, func(a, b [2]uintptr) int {
			if a[0] != b[0] {
				return int(int64(a[0]) - int64(b[0]))
			}
			return int(int64(a[1]) - int64(b[1]))
		})
		for i := 1; i < len(lists); i++ {
			if lists[i][0] < lists[i-1][1] {
				t.Fatalf("%s without %v: two lists share their memory", rowText(l), drop)
			}
		}
		runtime.KeepAlive(answers)
		runtime.KeepAlive(units)
	})
	// Whatever is written over one answer, and over what was handed in, is nothing to the other one.
	l := []code.Instr{full(code.Put), {Op: code.Piece}, full(code.Emit), full(code.End)}
	want := withoutAs(l, 0)
	one, two := pieces.Without(l, 0), pieces.Without(l, 0)
	for _, m := range [][]code.Instr{l, one} {
		for i, x := range m {
			clear(x.Key[:cap(x.Key)])
			for _, value := range x.Vals {
				clear(value[:cap(value)])
			}
			clear(x.Vals[:cap(x.Vals)])
			m[i] = code.Instr{Op: 99}
		}
	}
	if !reflect.DeepEqual(two, want) {
		t.Errorf("an answer is shared: %v", two)
	}
}

// Sizes.

func TestLongRows(t *testing.T) { // P10.1, P10.2, P10.3
	const long = 300000
	var l []code.Instr
	var drop []int
	for i := range long {
		l = append(l, code.Instr{Op: code.Jump, To: 2*i + 1}, code.Instr{Op: code.Piece})
		if i%3 > 0 {
			drop = append(drop, i, i)
		}
	}
	l = append(l, code.Instr{Op: code.End})
	units := pieces.Units(l, api.Pieces)
	if len(units) != long+1 || units[long-1] != (pieces.Unit{From: 2*long - 2, To: 2 * long}) || pieces.Of(l, api.Pieces, 2*long) != long {
		t.Errorf("%d units", len(units))
	}
	left := pieces.Without(l, drop...)
	if len(left) != long+long/3+1 || !code.Right(left, nil, 0) {
		t.Errorf("%d instructions", len(left))
	}
	// Of each three a Piece stays, behind the first jump.
	for i := 0; i < long; i += 3 {
		at := i / 3 * 4
		for k, want := range []code.Instr{{Op: code.Jump, To: at + 1}, {Op: code.Piece}, {Op: code.Jump, To: at + 3}, {Op: code.Jump, To: at + 4}} {
			if left[at+k].Op != want.Op || left[at+k].To != want.To {
				t.Fatalf("at %d: %s", at+k, rowText(left[at+k:at+k+1]))
			}
		}
	}
}

// As every call: the answers hang on what is handed in alone, whoever asks beside it.
func TestTheSameAgain(t *testing.T) {
	var all [][]code.Instr
	var drops [][]int
	eachRow(105, 200, func(l []code.Instr, drop []int) { all, drops = append(all, l), append(drops, drop) })
	ask := func(i int) string {
		return fmt.Sprint(pieces.Units(all[i], api.Pieces), pieces.Of(all[i], api.Pieces, 3), pieces.Without(all[i], drops[i]...))
	}
	var first []string
	for i := range all {
		first = append(first, ask(i))
	}
	done := make(chan string)
	for range 4 {
		go func() {
			for i := len(all) - 1; i >= 0; i-- {
				if ask(i) != first[i] {
					done <- first[i]
					return
				}
			}
			done <- ""
		}()
	}
	for range 4 {
		if x := <-done; x != "" {
			t.Errorf("another answer than %s", short(x))
		}
	}
}
