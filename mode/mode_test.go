package mode_test

import (
	"slices"
	"testing"

	"interlock/api"
	"interlock/mode"
)

// What the chapter says, written down a second time and by other means than the package's own, for the tests to hold the package against.

var modes = []api.Mode{api.None, api.IS, api.IX, api.S, api.SIX, api.X}

// steps are the chapter's words: the first is above the second.
var steps = [][2]api.Mode{
	{api.IS, api.None},
	{api.IX, api.IS}, {api.S, api.IS},
	{api.SIX, api.IX}, {api.SIX, api.S},
	{api.X, api.SIX},
}

var besideRows = map[api.Mode]string{
	api.None: "yyyyyy",
	api.IS:   "yyyyyn",
	api.IX:   "yyynnn",
	api.S:    "yynynn",
	api.SIX:  "yynnnn",
	api.X:    "ynnnnn",
}

// every is all that a Mode can hold, the modes that are none among them.
func every() []api.Mode {
	var all []api.Mode
	for n := range 256 {
		all = append(all, api.Mode(n))
	}
	return all
}

func taken(m api.Mode) api.Mode {
	if slices.Contains(modes, m) {
		return m
	}
	return api.None
}

// above goes down step by step from a, in search of b.
func above(a, b api.Mode) bool {
	if a == b {
		return true
	}
	for _, s := range steps {
		if s[0] == a && above(s[1], b) {
			return true
		}
	}
	return false
}

// leastOf is the one among the modes that are good which all others that are good are above.
func leastOf(t *testing.T, good func(api.Mode) bool) api.Mode {
	t.Helper()
	for _, m := range modes {
		if good(m) && !slices.ContainsFunc(modes, func(o api.Mode) bool { return good(o) && !above(o, m) }) {
			return m
		}
	}
	t.Fatal("there is no least one")
	return api.None
}

func greatestOf(t *testing.T, good func(api.Mode) bool) api.Mode {
	t.Helper()
	for _, m := range modes {
		if good(m) && !slices.ContainsFunc(modes, func(o api.Mode) bool { return good(o) && !above(m, o) }) {
			return m
		}
	}
	t.Fatal("there is no greatest one")
	return api.None
}

func TestKnown(t *testing.T) { // P1.1
	for _, m := range every() {
		if got, want := mode.Known(m), slices.Contains(modes, m); got != want {
			t.Errorf("Known(%d) = %t, want %t", m, got, want)
		}
	}
}

func TestWhatIsNoModeIsTakenForNone(t *testing.T) { // P1.1
	for _, bad := range every() {
		if slices.Contains(modes, bad) {
			continue
		}
		for _, m := range append(slices.Clone(modes), bad, 255) {
			if mode.Covers(bad, m) != mode.Covers(api.None, m) || mode.Covers(m, bad) != mode.Covers(m, api.None) {
				t.Errorf("Covers of %d and %d is not that of None", bad, m)
			}
			if mode.Beside(bad, m) != mode.Beside(api.None, m) || mode.Beside(m, bad) != mode.Beside(m, api.None) {
				t.Errorf("Beside of %d and %d is not that of None", bad, m)
			}
			if got, want := mode.Join(bad, m), mode.Join(api.None, m); got != want {
				t.Errorf("Join(%d, %d) = %d, want %d", bad, m, got, want)
			}
			if got, want := mode.Join(m, bad), mode.Join(m, api.None); got != want {
				t.Errorf("Join(%d, %d) = %d, want %d", m, bad, got, want)
			}
			if mode.Meet(bad, m) != api.None || mode.Meet(m, bad) != api.None {
				t.Errorf("Meet of %d and %d is not None", bad, m)
			}
		}
		if mode.Join(bad) != api.None || mode.Ahead(bad) != api.None || mode.Row(bad) != api.None || mode.Text(bad) != "" {
			t.Errorf("%d alone is not taken for None", bad)
		}
	}
}

func TestCovers(t *testing.T) { // P1.2
	for _, a := range every() {
		for _, b := range every() {
			if got, want := mode.Covers(a, b), above(taken(a), taken(b)); got != want {
				t.Errorf("Covers(%d, %d) = %t, want %t", a, b, got, want)
			}
		}
	}
}

func TestJoinOfNothing(t *testing.T) { // P1.3
	for _, none := range [][]api.Mode{nil, {}} {
		if got := mode.Join(none...); got != api.None {
			t.Errorf("Join of nothing = %d, want None", got)
		}
	}
	if got := mode.Join(); got != api.None {
		t.Errorf("Join() = %d, want None", got)
	}
}

func TestJoinOfOneToThree(t *testing.T) { // P1.3
	tried := append(slices.Clone(modes), 6, 128, 255)
	try := func(list ...api.Mode) {
		want := leastOf(t, func(m api.Mode) bool {
			return !slices.ContainsFunc(list, func(one api.Mode) bool { return !above(m, taken(one)) })
		})
		if got := mode.Join(list...); got != want {
			t.Errorf("Join(%d) = %d, want %d", list, got, want)
		}
	}
	for _, a := range tried {
		try(a)
		for _, b := range tried {
			try(a, b)
			for _, c := range tried {
				try(a, b, c)
			}
		}
	}
}

func TestJoinOfLongList(t *testing.T) { // P1.3
	list := slices.Repeat([]api.Mode{api.IS, 200}, 50000)
	if got := mode.Join(list...); got != api.IS {
		t.Errorf("Join of many = %d, want IS", got)
	}
	if got := mode.Join(append(list, api.S, api.IX)...); got != api.SIX {
		t.Errorf("Join of many, S and IX = %d, want SIX", got)
	}
	if got := mode.Join(append([]api.Mode{api.X}, list...)...); got != api.X {
		t.Errorf("Join of X and many = %d, want X", got)
	}
}

func TestJoinLeavesItsListAlone(t *testing.T) { // P1.3
	memory := []api.Mode{api.S, 77, api.IX, api.X, 99}
	before := slices.Clone(memory)
	if got := mode.Join(memory[:3]...); got != api.SIX {
		t.Errorf("Join(S, 77, IX) = %d, want SIX", got)
	}
	if !slices.Equal(memory, before) {
		t.Errorf("Join left %d of %d", memory, before)
	}
}

func TestMeet(t *testing.T) { // P1.3
	for _, a := range every() {
		for _, b := range every() {
			want := greatestOf(t, func(m api.Mode) bool { return above(taken(a), m) && above(taken(b), m) })
			if got := mode.Meet(a, b); got != want {
				t.Errorf("Meet(%d, %d) = %d, want %d", a, b, got, want)
			}
		}
	}
}

func TestBeside(t *testing.T) { // P1.4
	for _, a := range every() {
		for _, b := range every() {
			if got, want := mode.Beside(a, b), besideRows[taken(a)][taken(b)] == 'y'; got != want {
				t.Errorf("Beside(%d, %d) = %t, want %t", a, b, got, want)
			}
		}
	}
}

func TestAhead(t *testing.T) { // P1.5
	want := map[api.Mode]api.Mode{api.IS: api.IS, api.S: api.IS, api.IX: api.IX, api.SIX: api.IX, api.X: api.IX}
	for _, m := range every() {
		if got := mode.Ahead(m); got != want[m] {
			t.Errorf("Ahead(%d) = %d, want %d", m, got, want[m])
		}
	}
}

func TestRow(t *testing.T) { // P1.6
	want := map[api.Mode]api.Mode{api.S: api.S, api.SIX: api.S, api.X: api.X}
	for _, m := range every() {
		if got := mode.Row(m); got != want[m] {
			t.Errorf("Row(%d) = %d, want %d", m, got, want[m])
		}
	}
}

func TestText(t *testing.T) { // P1.7
	want := map[api.Mode]string{api.IS: "IS", api.IX: "IX", api.S: "S", api.SIX: "SIX", api.X: "X"}
	for _, m := range every() {
		if got := mode.Text(m); got != want[m] {
			t.Errorf("Text(%d) = %q, want %q", m, got, want[m])
		}
	}
}

func TestOrderOfCovers(t *testing.T) { // P1.8
	for _, a := range modes {
		if !mode.Covers(a, a) || !mode.Covers(a, api.None) || !mode.Covers(api.X, a) {
			t.Errorf("%d does not cover itself, or None, or X does not cover it", a)
		}
		for _, b := range modes {
			if mode.Covers(a, b) && mode.Covers(b, a) && a != b {
				t.Errorf("%d and %d cover each other", a, b)
			}
			for _, c := range modes {
				if mode.Covers(a, b) && mode.Covers(b, c) && !mode.Covers(a, c) {
					t.Errorf("%d covers %d, that %d, but %d not %d", a, b, c, a, c)
				}
			}
		}
	}
}

func TestLattice(t *testing.T) { // P1.8
	for _, a := range modes {
		if mode.Join(a, a) != a || mode.Meet(a, a) != a {
			t.Errorf("Join or Meet of %d with itself is another", a)
		}
		for _, b := range modes {
			join, meet := mode.Join(a, b), mode.Meet(a, b)
			if join != mode.Join(b, a) || meet != mode.Meet(b, a) {
				t.Errorf("%d and %d the other way round give another Join or Meet", a, b)
			}
			if mode.Join(a, meet) != a || mode.Meet(a, join) != a {
				t.Errorf("%d is not absorbed with %d", a, b)
			}
			if covers := mode.Covers(a, b); covers != (join == a) || covers != (meet == b) {
				t.Errorf("Covers(%d, %d) is %t, Join %d, Meet %d", a, b, covers, join, meet)
			}
			latticeOfThree(t, a, b)
		}
	}
}

func latticeOfThree(t *testing.T, a, b api.Mode) {
	t.Helper()
	join, meet := mode.Join(a, b), mode.Meet(a, b)
	for _, c := range modes {
		all := mode.Join(a, b, c)
		if all != mode.Join(join, c) || all != mode.Join(a, mode.Join(b, c)) {
			t.Errorf("Join of %d, %d and %d hangs on how they are taken together", a, b, c)
		}
		if mode.Meet(meet, c) != mode.Meet(a, mode.Meet(b, c)) {
			t.Errorf("Meet of %d, %d and %d hangs on how they are taken together", a, b, c)
		}
		if mode.Covers(c, a) && mode.Covers(c, b) && !mode.Covers(c, join) {
			t.Errorf("%d covers %d and %d, but not their Join %d", c, a, b, join)
		}
		if mode.Covers(a, c) && mode.Covers(b, c) && !mode.Covers(meet, c) {
			t.Errorf("%d and %d cover %d, but their Meet %d does not", a, b, c, meet)
		}
	}
}

func TestBesideGoesDown(t *testing.T) { // P1.8
	for _, a := range modes {
		for _, b := range modes {
			if mode.Beside(a, b) != mode.Beside(b, a) {
				t.Errorf("Beside of %d and %d hangs on their order", a, b)
			}
			for _, c := range modes {
				if mode.Beside(a, b) && mode.Covers(b, c) && !mode.Beside(a, c) {
					t.Errorf("%d goes beside %d, but not beside %d which that covers", a, b, c)
				}
			}
		}
	}
}

func TestRowsAreToldApartByRows(t *testing.T) { // P1.8
	for _, a := range modes {
		for _, b := range modes {
			if !mode.Beside(a, b) && !mode.Beside(mode.Ahead(a), mode.Ahead(b)) {
				t.Errorf("Ahead of %d and Ahead of %d do not go beside each other", a, b)
			}
		}
	}
}

func TestTableKeepsOthersOut(t *testing.T) { // P1.8
	for _, table := range modes {
		for _, row := range modes {
			if !mode.Covers(mode.Row(table), row) {
				continue
			}
			for _, other := range modes {
				if !mode.Beside(other, row) && mode.Beside(mode.Ahead(other), table) {
					t.Errorf("a table in %d allows %d of its rows, and Ahead of %d goes beside it", table, row, other)
				}
			}
		}
	}
}

func TestChapterExamples(t *testing.T) { // P1.2 to P1.6
	for _, x := range []struct {
		call      string
		got, want api.Mode
	}{
		{"Join(IX, S)", mode.Join(api.IX, api.S), api.SIX},
		{"Join(IS, IX)", mode.Join(api.IS, api.IX), api.IX},
		{"Join()", mode.Join(), api.None},
		{"Meet(IX, S)", mode.Meet(api.IX, api.S), api.IS},
		{"Ahead(X)", mode.Ahead(api.X), api.IX},
		{"Row(SIX)", mode.Row(api.SIX), api.S},
		{"Row(IX)", mode.Row(api.IX), api.None},
	} {
		if x.got != x.want {
			t.Errorf("%s = %d, want %d", x.call, x.got, x.want)
		}
	}
	for _, x := range []struct {
		call      string
		got, want bool
	}{
		{"Beside(IX, IX)", mode.Beside(api.IX, api.IX), true},
		{"Beside(S, IX)", mode.Beside(api.S, api.IX), false},
		{"Beside(SIX, IS)", mode.Beside(api.SIX, api.IS), true},
		{"Beside(X, IS)", mode.Beside(api.X, api.IS), false},
		{"Covers(SIX, S)", mode.Covers(api.SIX, api.S), true},
	} {
		if x.got != x.want {
			t.Errorf("%s = %t, want %t", x.call, x.got, x.want)
		}
	}
}
