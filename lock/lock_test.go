package lock_test

import (
	"fmt"
	"math"
	"math/rand"
	"reflect"
	"runtime"
	"slices"
	"strings"
	"testing"

	"interlock/api"
	"interlock/lock"
)

func table(n int) api.Spot { return api.Spot{Table: n} }

func row(n int, key int64) api.Spot { return api.Spot{Table: n, Row: true, Key: key} }

var modes = []api.Mode{api.IS, api.IX, api.S, api.SIX, api.X}

// call is a call that changes something: its answer, and whom it woke, are told as a text.
type call struct {
	name string
	who  int64
	s    api.Spot
	m    api.Mode
}

func ask(who int64, s api.Spot, m api.Mode) call { return call{"ask", who, s, m} }
func free(who int64, s api.Spot) call            { return call{"free", who, s, 0} }
func cancel(who int64) call                      { return call{"cancel", who, api.Spot{}, 0} }
func leave(who int64) call                       { return call{"leave", who, api.Spot{}, 0} }

func (c call) of(l locks) string {
	switch c.name {
	case "ask":
		ok, e := l.Ask(c.who, c.s, c.m)
		return fmt.Sprint(ok, " ", int(e))
	case "free":
		woken, e := l.Free(c.who, c.s)
		return fmt.Sprint(woken, " ", int(e))
	case "cancel":
		woken, e := l.Cancel(c.who)
		return fmt.Sprint(woken, " ", int(e))
	case "leave":
		return fmt.Sprint(l.Leave(c.who))
	}
	panic(c.name)
}

func (c call) String() string {
	return strings.Join([]string{c.name, fmt.Sprint(c.who), spotText(c.s), fmt.Sprint(c.m)}, " ")
}

// script makes a call after another one, and asks for the answers that stand behind them.
type script struct {
	t *testing.T
	*lock.Locks
}

func begin(t *testing.T, most int) script { return script{t, lock.New(most)} }

func (x script) ask(who int64, s api.Spot, m api.Mode, want bool) {
	x.t.Helper()
	if ok, e := x.Ask(who, s, m); ok != want || e != api.OK {
		x.t.Fatalf("%v: %v %d, want %v", ask(who, s, m), ok, e, want)
	}
}

// refused makes a call that is to answer an error, and nothing else, and to change nothing.
func (x script) refused(c call, want api.Errno) {
	x.t.Helper()
	whos, spots := []int64{0, 1, 2, 3, 4, 5, 6, 7, 8, 9}, []api.Spot{table(0), table(1), row(0, 1), row(0, 2), row(0, 3), row(1, 1), c.s}
	before := told(x, whos, spots)
	nothing := "[] "
	if c.name == "ask" {
		nothing = "false "
	}
	if got := c.of(x); got != nothing+fmt.Sprint(int(want)) {
		x.t.Errorf("%v: %s, want %d", c, got, want)
	}
	if now := told(x, whos, spots); now != before {
		x.t.Errorf("%v: refused, but\n%s\nwas\n%s", c, now, before)
	}
}

func (x script) wakes(c call, want ...int64) {
	x.t.Helper()
	all := fmt.Sprint(want)
	if c.name != "leave" {
		all += " 0"
	}
	if got := c.of(x); got != all {
		x.t.Fatalf("%v: %s, want %s", c, got, all)
	}
}

func (x script) holds(who int64, s api.Spot, want api.Mode) {
	x.t.Helper()
	if got := x.Held(who, s); got != want {
		x.t.Errorf("%d holds %s in %d, want %d", who, spotText(s), got, want)
	}
}

func (x script) queue(s api.Spot, want ...lock.Hold) {
	x.t.Helper()
	if got := x.Queue(s); !slices.Equal(got, want) {
		x.t.Errorf("queue of %s: %v, want %v", spotText(s), got, want)
	}
}

func (x script) holders(s api.Spot, want ...lock.Hold) {
	x.t.Helper()
	if got := x.Holders(s); !slices.Equal(got, want) {
		x.t.Errorf("holders of %s: %v, want %v", spotText(s), got, want)
	}
}

func (x script) waitsFor(who int64, want ...int64) {
	x.t.Helper()
	if got := x.For(who); !slices.Equal(got, want) {
		x.t.Errorf("%d waits for %v, want %v", who, got, want)
	}
}

func (x script) waits(who int64, s api.Spot, m api.Mode) {
	x.t.Helper()
	if gotS, gotM, waits := x.Waits(who); gotS != s || gotM != m || waits != (m != api.None) {
		x.t.Errorf("%d waits for %s in %d: %v, want %s in %d", who, spotText(gotS), gotM, waits, spotText(s), m)
	}
}

func (x script) used(want int) {
	x.t.Helper()
	if got := x.Used(); got != want {
		x.t.Errorf("%d entries, want %d", got, want)
	}
}

// The chapter's examples.
func TestExamples(t *testing.T) { // P11.2, P11.3, P11.4
	x, s := begin(t, 100), row(0, 3)
	x.ask(1, s, api.S, true)
	x.ask(2, s, api.S, true)
	x.ask(3, s, api.X, false)
	x.ask(4, s, api.S, false)
	x.ask(1, s, api.X, false)
	x.waitsFor(1, 2)
	x.waitsFor(3, 1, 2)
	x.waitsFor(4, 1, 3)
	x.wakes(leave(2), 1)
	x.holders(s, lock.Hold{Who: 1, Mode: api.X})
	x.queue(s, lock.Hold{Who: 3, Mode: api.X}, lock.Hold{Who: 4, Mode: api.S})
}

// New, Less, and what is nil.

func TestNilTable(t *testing.T) { // P11.1
	var l *lock.Locks
	for _, s := range []api.Spot{{}, row(1, -2), row(-1, 0), {Table: 1, Key: 3}} {
		for _, who := range []int64{math.MinInt64, -1, 0, 1, math.MaxInt64} {
			// Who asks for what may not be finds that there is no table first.
			for m := range 256 {
				if ok, e := l.Ask(who, s, api.Mode(m)); ok || e != api.ErrNil {
					t.Errorf("Ask: %v %d", ok, e)
				}
			}
			if woken, e := l.Free(who, s); len(woken) > 0 || e != api.ErrNil {
				t.Errorf("Free: %v %d", woken, e)
			}
			if woken, e := l.Cancel(who); len(woken) > 0 || e != api.ErrNil {
				t.Errorf("Cancel: %v %d", woken, e)
			}
			if woken := l.Leave(who); len(woken) > 0 {
				t.Errorf("Leave: %v", woken)
			}
			if m := l.Held(who, s); m != api.None {
				t.Errorf("Held: %d", m)
			}
			if s, m, waits := l.Waits(who); s != (api.Spot{}) || m != api.None || waits {
				t.Errorf("Waits: %v %d %v", s, m, waits)
			}
			if len(l.Holders(s)) > 0 || len(l.Queue(s)) > 0 || len(l.Spots(who)) > 0 || len(l.For(who)) > 0 || l.Used() != 0 {
				t.Errorf("%v, %v, %v, %v, %d", l.Holders(s), l.Queue(s), l.Spots(who), l.For(who), l.Used())
			}
		}
	}
}

func TestNoRoom(t *testing.T) { // P11.1, P11.2
	for _, most := range []int{math.MinInt, math.MinInt32, -2, -1, 0} {
		x := begin(t, most)
		for range 2 {
			x.refused(ask(1, table(0), api.IS), api.ErrLimit)
			x.refused(ask(1, row(0, 1), api.X), api.ErrLimit)
			x.refused(ask(0, table(0), api.None), api.ErrArg)
			x.refused(free(1, table(0)), api.ErrNone)
			x.refused(cancel(1), api.ErrNone)
			x.wakes(leave(1))
		}
		x.used(0)
	}
	// One that is made by hand has no room.
	x := script{t, new(lock.Locks)}
	x.refused(ask(1, table(0), api.IS), api.ErrLimit)
	x.refused(free(1, table(0)), api.ErrNone)
	x.refused(cancel(1), api.ErrNone)
	x.wakes(leave(1))
	x.used(0)
}

func TestRoom(t *testing.T) { // P11.1, P11.2, P11.6
	x := begin(t, 1)
	x.ask(1, table(0), api.IX, true)
	x.refused(ask(1, table(1), api.IS), api.ErrLimit)
	x.refused(ask(1, row(0, 0), api.IS), api.ErrLimit)
	x.refused(ask(2, table(0), api.IS), api.ErrLimit) // it could be granted
	x.refused(ask(2, table(0), api.X), api.ErrLimit)  // it would wait
	x.ask(1, table(0), api.IS, true)                  // that is covered
	x.ask(1, table(0), api.X, true)                   // of that it has an entry
	x.used(1)
	x.wakes(free(1, table(0)))
	x.used(0)
	x.ask(2, row(1, 1), api.S, true)
	x.wakes(leave(2))
	x.ask(3, row(1, 1), api.S, true)
	x.used(1)

	x = begin(t, 3)
	x.ask(1, row(0, 1), api.S, true)
	x.ask(2, row(0, 1), api.S, true)
	x.ask(3, row(0, 1), api.X, false) // who waits takes room
	x.used(3)
	x.refused(ask(4, table(0), api.IS), api.ErrLimit)
	x.ask(1, row(0, 1), api.X, false) // who upgrades, no more than it had
	x.used(3)
	x.wakes(cancel(1)) // it has its entry still
	x.used(3)
	x.refused(ask(4, table(0), api.IS), api.ErrLimit)
	x.wakes(cancel(3))
	x.used(2)
	x.ask(4, table(0), api.IS, true)
	x.refused(ask(1, table(0), api.IS), api.ErrLimit)
	x.wakes(free(2, row(0, 1)))
	x.used(2)
	x.ask(1, table(0), api.IS, true)
	x.refused(ask(5, table(0), api.IS), api.ErrLimit)
	x.wakes(leave(1)) // it had two
	x.used(1)
	x.ask(5, table(0), api.IS, true)
	x.ask(5, table(1), api.IS, true)
	x.refused(ask(5, table(2), api.IS), api.ErrLimit)
	x.used(3)
}

// However often room is taken and given up again, there is no less of it.
func TestRoomAgain(t *testing.T) { // P11.1, P11.6
	for _, most := range []int{1, 2, 7} {
		x := begin(t, most)
		for turn := range 50 {
			for i := range most {
				x.ask(int64(i), row(0, int64(turn)), api.S, true)
			}
			x.refused(ask(8, row(0, int64(turn)), api.S), api.ErrLimit)
			for i := range most {
				x.used(most - i)
				x.wakes([]call{free(int64(i), row(0, int64(turn))), leave(int64(i))}[turn%2])
			}
			x.used(0)
		}
	}
	x := begin(t, 2)
	x.ask(1, table(0), api.X, true)
	for range 50 {
		x.ask(2, table(0), api.S, false)
		x.refused(ask(3, table(0), api.S), api.ErrLimit)
		x.wakes(cancel(2))
	}
}

func TestMuchRoom(t *testing.T) { // P11.1
	for _, most := range []int{100, math.MaxInt32, math.MaxInt} {
		x := begin(t, most)
		for i := range 100 {
			x.ask(int64(i%10), row(0, int64(i)), api.X, true)
		}
		x.used(100)
		if most == 100 {
			x.refused(ask(0, row(0, 100), api.IS), api.ErrLimit)
		} else {
			x.ask(0, row(0, 100), api.IS, true)
		}
	}
}

// inOrder are spots as they stand ahead of each other, some that may not be asked for among them.
var inOrder = []api.Spot{
	{Table: math.MinInt, Key: -1}, {Table: math.MinInt, Row: true, Key: math.MinInt64}, {Table: -1}, {Table: -1, Row: true},
	table(0), {Table: 0, Key: 5}, row(0, math.MinInt64), row(0, -10), row(0, -9), row(0, -1), row(0, 0), row(0, 1), row(0, 2), row(0, 10),
	row(0, 1<<40), row(0, math.MaxInt64), {Table: 1, Key: math.MinInt64}, {Table: 1, Key: -1}, table(1), row(1, -7), row(1, 0), row(1, 3),
	table(2), row(2, -1), table(10), row(10, 0), table(math.MaxInt), row(math.MaxInt, math.MinInt64), row(math.MaxInt, math.MaxInt64),
}

func TestLess(t *testing.T) { // P11.1
	for i, a := range inOrder {
		for k, b := range inOrder {
			if got := lock.Less(a, b); got != (i < k) {
				t.Errorf("Less(%s, %s): %v", spotText(a), spotText(b), got)
			}
		}
	}
}

// Ask.

func TestAskOfWhatMayNotBe(t *testing.T) { // P11.2
	x := begin(t, 3)
	x.ask(1, row(0, 1), api.X, true)
	x.ask(2, row(0, 1), api.X, false)
	// That of who holds, who waits, and who has nothing; with room and without.
	for range 2 {
		for who := int64(1); who <= 3; who++ {
			for m := range 256 {
				if m < 1 || m > 5 {
					x.refused(ask(who, row(0, 1), api.Mode(m)), api.ErrArg)
					x.refused(ask(who, table(-1), api.Mode(m)), api.ErrArg)
				}
			}
			for _, m := range modes {
				for _, s := range []api.Spot{{Key: 1}, {Key: -1}, {Table: 4, Key: math.MaxInt64}, {Table: 4, Key: math.MinInt64},
					table(-1), table(math.MinInt), row(-1, 1), row(math.MinInt, 0), {Table: -1, Key: 1}} {
					x.refused(ask(who, s, m), api.ErrArg)
				}
			}
		}
		x.Ask(3, table(0), api.IS)
	}
	// All other spots may be.
	y := begin(t, len(inOrder))
	for _, s := range inOrder {
		if s.Table >= 0 && (s.Row || s.Key == 0) {
			y.ask(1, s, api.S, true)
			y.holds(1, s, api.S)
		} else {
			y.refused(ask(1, s, api.S), api.ErrArg)
		}
	}
}

func TestWhichErrorComesFirst(t *testing.T) { // P11.2, P11.3
	x := begin(t, 3)
	x.ask(1, row(0, 1), api.S, true)
	x.ask(2, row(0, 1), api.S, true)
	x.ask(3, row(0, 1), api.X, false)
	x.refused(ask(3, row(0, 1), api.None), api.ErrArg)     // it waits, too
	x.refused(ask(9, table(-1), api.S), api.ErrArg)        // there is no room, too
	x.refused(ask(3, row(0, 2), api.S), api.ErrState)      // there is no room, too
	x.refused(ask(3, row(0, 1), api.X), api.ErrState)      // that is what it waits for
	x.refused(ask(3, row(0, 1), api.IS), api.ErrState)     // that is less
	x.refused(ask(9, row(0, 1), api.S), api.ErrLimit)      // it would wait
	x.refused(free(3, row(0, 1)), api.ErrState)            // it holds nothing of it, too
	x.refused(free(3, api.Spot{Key: 1}), api.ErrState)     // there is no such spot, too
	x.refused(free(9, row(0, 1)), api.ErrNone)             // others hold it
	x.refused(free(1, api.Spot{Key: 1}), api.ErrNone)      // there is no such spot
	x.refused(free(1, table(math.MinInt)), api.ErrNone)    // there is no such spot
	x.refused(cancel(1), api.ErrNone)                      // it holds something
	x.refused(cancel(math.MinInt64), api.ErrNone)          // it has nothing
	x.ask(1, row(0, 1), api.X, false)                      // it upgrades
	x.refused(ask(1, row(0, 1), api.S), api.ErrState)      // it holds that
	x.refused(ask(1, row(0, 1), api.IS), api.ErrState)     // it holds what covers that
	x.refused(free(1, row(0, 1)), api.ErrState)            // it holds that
	x.refused(ask(1, row(0, 1), 6), api.ErrArg)            // it waits, too
	x.refused(ask(1, api.Spot{Key: 1}, 0), api.ErrArg)     // it waits, too
	x.ask(2, row(0, 1), api.S, true)                       // it does not wait, and there is no room, but it holds that
	x.refused(ask(2, table(0), api.IS), api.ErrLimit)      // of that it has no entry
	x.refused(ask(2, table(0), api.X+1), api.ErrArg)       // there is no room, too
	x.refused(ask(2, table(0), math.MaxUint8), api.ErrArg) // there is no room, too
}

// What is held in a mode that covers what is asked for, or does not.
func TestAskAgain(t *testing.T) { // P11.2
	for _, held := range modes {
		for _, asked := range modes {
			x := begin(t, 1)
			x.ask(1, table(0), held, true)
			before := told(x, []int64{1, 2}, []api.Spot{table(0)})
			x.ask(1, table(0), asked, true)
			x.holds(1, table(0), joinAs(held, asked))
			x.used(1)
			if coversAs(held, asked) && told(x, []int64{1, 2}, []api.Spot{table(0)}) != before {
				t.Errorf("%d covers %d, but something changed", held, asked)
			}
		}
	}
	// Even where others wait, and there is no room.
	x := begin(t, 2)
	x.ask(1, row(0, 1), api.S, true)
	x.ask(2, row(0, 1), api.X, false)
	before := told(x, []int64{1, 2}, []api.Spot{row(0, 1)})
	x.ask(1, row(0, 1), api.S, true)
	x.ask(1, row(0, 1), api.IS, true)
	if now := told(x, []int64{1, 2}, []api.Spot{row(0, 1)}); now != before {
		t.Errorf("changed to %s", now)
	}
}

// Each mode asked for beside each other one, by one that has nothing, and by one that holds something.
func TestAskBesideOne(t *testing.T) { // P11.2
	for _, held := range modes {
		for _, asked := range modes {
			x := begin(t, 2)
			x.ask(1, row(3, 4), held, true)
			x.ask(2, row(3, 4), asked, besideAs(held, asked))
			x.used(2)
			if besideAs(held, asked) {
				x.holders(row(3, 4), lock.Hold{Who: 1, Mode: held}, lock.Hold{Who: 2, Mode: asked})
				x.queue(row(3, 4))
				x.waits(2, api.Spot{}, api.None)
				x.waitsFor(2)
			} else {
				x.holders(row(3, 4), lock.Hold{Who: 1, Mode: held})
				x.queue(row(3, 4), lock.Hold{Who: 2, Mode: asked})
				x.waits(2, row(3, 4), asked)
				x.waitsFor(2, 1)
			}
			for _, own := range modes {
				if besideAs(held, own) {
					upgradeBesideOne(t, held, own, asked)
				}
			}
		}
	}
}

func upgradeBesideOne(t *testing.T, held, own, asked api.Mode) {
	t.Helper()
	x := begin(t, 2)
	wish := joinAs(own, asked)
	isGranted := besideAs(held, wish)
	x.ask(1, row(3, 4), held, true)
	x.ask(2, row(3, 4), own, true)
	x.ask(2, row(3, 4), asked, isGranted)
	x.used(2)
	if isGranted {
		x.holds(2, row(3, 4), wish)
		return
	}
	// It holds what it held, and wishes for both.
	x.holds(2, row(3, 4), own)
	x.waits(2, row(3, 4), wish)
	x.queue(row(3, 4), lock.Hold{Who: 2, Mode: wish})
	x.waitsFor(2, 1)
	x.wakes(free(1, row(3, 4)), 2)
	x.holders(row(3, 4), lock.Hold{Who: 2, Mode: wish})
}

func TestAskBehindAQueue(t *testing.T) { // P11.2
	x, s := begin(t, 9), row(0, 1)
	x.ask(1, s, api.S, true)
	x.ask(2, s, api.X, false)
	x.ask(3, s, api.S, false) // it would go beside 1
	x.ask(4, s, api.IS, false)
	x.waitsFor(3, 2)
	x.waitsFor(4, 2, 3)
	x.queue(s, lock.Hold{Who: 2, Mode: api.X}, lock.Hold{Who: 3, Mode: api.S}, lock.Hold{Who: 4, Mode: api.IS})
	// Behind one that upgrades as well; not of another spot.
	x = begin(t, 9)
	x.ask(1, s, api.S, true)
	x.ask(2, s, api.S, true)
	x.ask(1, s, api.X, false)
	x.ask(3, s, api.IS, false)
	x.ask(3+1, row(0, 2), api.X, true)
	x.ask(5, table(0), api.X, true)
	x.ask(6, row(1, 1), api.X, true)
	x.queue(s, lock.Hold{Who: 1, Mode: api.X}, lock.Hold{Who: 3, Mode: api.IS})
	x.waitsFor(3, 1)
	x.wakes(cancel(1), 3)
}

func TestUpgradesAheadOfAQueue(t *testing.T) { // P11.2, P11.3, P11.6
	x, s := begin(t, 9), row(0, 1)
	x.ask(1, s, api.IS, true)
	x.ask(2, s, api.IX, true)
	x.ask(3, s, api.S, false)
	x.ask(1, s, api.IX, true) // it goes beside 2: 3 is no hindrance
	x.holds(1, s, api.IX)
	x.queue(s, lock.Hold{Who: 3, Mode: api.S})
	x.ask(4, s, api.IS, false)
	x.ask(2, s, api.X, false) // 1 is
	x.queue(s, lock.Hold{Who: 2, Mode: api.X}, lock.Hold{Who: 3, Mode: api.S}, lock.Hold{Who: 4, Mode: api.IS})
	x.waitsFor(2, 1)
	x.waitsFor(3, 1, 2)
	x.waitsFor(4, 2, 3)
	// Several, in the order in which they asked, not in that of their numbers, nor in that in which they hold.
	x = begin(t, 9)
	for who := int64(1); who <= 4; who++ {
		x.ask(who, s, api.IS, true)
	}
	x.ask(9, s, api.X, false)
	x.ask(8, s, api.IS, false)
	x.ask(3, s, api.X, false)
	x.ask(1, s, api.X, false)
	x.ask(4, s, api.X, false)
	x.queue(s, lock.Hold{Who: 3, Mode: api.X}, lock.Hold{Who: 1, Mode: api.X}, lock.Hold{Who: 4, Mode: api.X}, lock.Hold{Who: 9, Mode: api.X},
		lock.Hold{Who: 8, Mode: api.IS})
	x.waitsFor(3, 1, 2, 4)
	x.waitsFor(1, 2, 3, 4)
	x.waitsFor(9, 1, 2, 3, 4)
	x.waitsFor(8, 1, 3, 4, 9)
	// One that can be granted is, whoever upgrades and waits.
	x.ask(2, s, api.S, true)
	x.holds(2, s, api.S)
	x.wakes(leave(2))
	x.wakes(leave(4))
	x.wakes(leave(1), 3)
	x.wakes(leave(3), 9)
	x.wakes(leave(9), 8)
}

// Free, Cancel, Leave.

func TestFree(t *testing.T) { // P11.3
	x, s := begin(t, 99), row(0, 1)
	x.refused(free(1, s), api.ErrNone)
	x.ask(1, s, api.X, true)
	x.ask(1, table(0), api.IX, true)
	x.refused(free(1, row(0, 2)), api.ErrNone)
	x.refused(free(1, row(1, 1)), api.ErrNone)
	x.refused(free(2, s), api.ErrNone)
	for who, m := range []api.Mode{2: api.S, api.IS, api.S, api.X, api.S, api.S} {
		if who >= 2 {
			x.ask(int64(10-who), s, m, false)
		}
	}
	x.refused(free(8, s), api.ErrState)
	x.wakes(free(1, table(0))) // nobody waits for that
	x.wakes(free(1, s), 8, 7, 6)
	x.refused(free(1, s), api.ErrNone)
	x.holders(s, lock.Hold{Who: 6, Mode: api.S}, lock.Hold{Who: 7, Mode: api.IS}, lock.Hold{Who: 8, Mode: api.S})
	x.queue(s, lock.Hold{Who: 5, Mode: api.X}, lock.Hold{Who: 4, Mode: api.S}, lock.Hold{Who: 3, Mode: api.S})
	x.wakes(free(8, s)) // 5 waits for 6 and 7 still, and the others for 5
	x.wakes(free(6, s))
	x.wakes(free(7, s), 5)
	x.wakes(free(5, s), 4, 3)
	x.wakes(free(4, s))
	x.wakes(free(3, s))
	x.used(0)
}

// Who is woken holds its wish, the join of what it held and what it asked for.
func TestWokenUpgraders(t *testing.T) { // P11.3
	x, s := begin(t, 99), table(0)
	x.ask(1, s, api.IX, true)
	x.ask(2, s, api.IX, true)
	x.ask(3, s, api.IS, true)
	x.ask(4, s, api.IS, true)
	x.ask(1, s, api.S, false)
	x.ask(3, s, api.S, false)
	x.ask(5, s, api.IS, false)
	x.waits(1, s, api.SIX)
	x.waits(3, s, api.S)
	x.waitsFor(1, 2)
	x.waitsFor(3, 1, 2)
	x.waitsFor(5, 1, 3)
	x.wakes(free(2, s), 1)
	x.holds(1, s, api.SIX)
	x.holds(3, s, api.IS)
	x.waits(1, api.Spot{}, api.None)
	x.waitsFor(3, 1)
	x.waitsFor(5, 3)
	x.wakes(cancel(3), 5)
	x.holds(3, s, api.IS)
	x.ask(3, s, api.S, false)
	x.wakes(free(1, s), 3)
	x.holders(s, lock.Hold{Who: 3, Mode: api.S}, lock.Hold{Who: 4, Mode: api.IS}, lock.Hold{Who: 5, Mode: api.IS})
}

func TestCancel(t *testing.T) { // P11.3
	x, s := begin(t, 99), row(0, 1)
	x.refused(cancel(1), api.ErrNone)
	x.ask(1, s, api.S, true)
	x.refused(cancel(1), api.ErrNone)
	x.ask(2, s, api.X, false)
	x.ask(3, s, api.S, false)
	x.ask(4, s, api.X, false)
	x.ask(5, s, api.S, false)
	x.ask(6, s, api.IS, false)
	x.wakes(cancel(4)) // out of the middle: the first one cannot be granted
	x.refused(cancel(4), api.ErrNone)
	x.queue(s, lock.Hold{Who: 2, Mode: api.X}, lock.Hold{Who: 3, Mode: api.S}, lock.Hold{Who: 5, Mode: api.S}, lock.Hold{Who: 6, Mode: api.IS})
	x.wakes(cancel(6)) // the last one
	x.ask(6, s, api.IS, false)
	x.wakes(cancel(2), 3, 5, 6) // the first one
	x.refused(cancel(3), api.ErrNone)
	x.used(4)
	// Of one that upgrades: it holds what it held.
	x.ask(3, s, api.X, false)
	x.ask(2, s, api.S, false)
	x.wakes(cancel(3), 2)
	x.holds(3, s, api.S)
	x.waits(3, api.Spot{}, api.None)
	x.used(5)
	// And may ask for something else.
	x.ask(3, row(0, 2), api.X, true)
}

func TestLeave(t *testing.T) { // P11.3
	x := begin(t, 99)
	x.wakes(leave(1)) // it has nothing
	// It holds much: who waits for the spots is woken by their order, not by that in which anybody asked.
	spots := []api.Spot{row(2, 5), row(0, 7), table(1), row(0, -3), table(0), row(1, 0), row(0, 10)}
	for i, s := range spots {
		x.ask(1, s, api.X, true)
		x.ask(int64(20+i), s, api.X, false)
		x.ask(int64(10+i), s, api.S, false)
	}
	x.used(21)
	x.wakes(leave(1), 24, 23, 21, 26, 22, 25, 20)
	x.used(14)
	x.wakes(leave(1))
	if len(x.Spots(1)) > 0 {
		t.Errorf("it holds %v", x.Spots(1))
	}
	for i := range spots {
		x.wakes(leave(int64(20+i)), int64(10+i))
	}
	for i := range spots {
		x.wakes(leave(int64(10 + i)))
	}
	x.used(0)
}

func TestLeaveOfWhoWaits(t *testing.T) { // P11.3
	// It waits alone.
	x, s := begin(t, 99), row(0, 1)
	x.ask(1, s, api.S, true)
	x.ask(2, s, api.X, false)
	x.ask(3, s, api.S, false)
	x.wakes(leave(2), 3)
	x.waits(2, api.Spot{}, api.None)
	x.used(2)
	// It upgrades, and holds other things: all is regranted when all is given up.
	x = begin(t, 99)
	x.ask(1, table(1), api.X, true)
	x.ask(1, s, api.S, true)
	x.ask(1, row(0, 9), api.X, true)
	x.ask(2, s, api.S, true)
	x.ask(1, s, api.X, false)
	x.ask(3, s, api.X, false)
	x.ask(4, s, api.S, false)
	x.ask(5, table(1), api.S, false)
	x.ask(6, table(1), api.S, false)
	x.ask(7, row(0, 9), api.IS, false)
	x.wakes(leave(1), 7, 5, 6)
	x.waitsFor(3, 2)
	x.wakes(leave(2), 3)
	x.used(5)
	// It waits for what stands between two that it holds.
	x = begin(t, 99)
	x.ask(9, row(0, 5), api.S, true)
	x.ask(1, row(0, 6), api.X, true)
	x.ask(1, row(0, 4), api.X, true)
	x.ask(1, row(0, 5), api.X, false)
	x.ask(6, row(0, 6), api.S, false)
	x.ask(5, row(0, 5), api.S, false)
	x.ask(4, row(0, 4), api.S, false)
	x.wakes(leave(1), 4, 5, 6)
	// And for a spot of which somebody has nothing any more.
	x = begin(t, 99)
	x.ask(1, s, api.X, true)
	x.wakes(leave(1))
	x.ask(2, s, api.X, true)
}

// Those that tell.

func TestOfNobody(t *testing.T) { // P11.4
	x := begin(t, 9)
	for _, m := range []api.Mode{api.None, api.X, api.S} {
		// Of an empty table, of one with a holder, and of one with somebody who waits for it.
		if m != api.None {
			x.ask(int64(m), row(0, 1), m, m == api.X)
		}
		for _, who := range []int64{math.MinInt64, -1, 0, 7, math.MaxInt64} {
			x.holds(who, row(0, 1), api.None)
			x.waits(who, api.Spot{}, api.None)
			x.waitsFor(who)
			if len(x.Spots(who)) > 0 {
				t.Errorf("%d holds %v", who, x.Spots(who))
			}
		}
		for _, s := range []api.Spot{table(1), row(0, 2), row(1, 1), {Key: 1}, table(-1), row(-1, 1), {Table: math.MaxInt, Key: math.MinInt64}} {
			x.holders(s)
			x.queue(s)
			x.holds(int64(api.X), s, api.None)
		}
	}
}

func TestWhatIsTold(t *testing.T) { // P11.4
	x := begin(t, 99)
	for _, who := range []int64{5, math.MaxInt64, -3, 0, math.MinInt64, 12} {
		x.ask(who, table(2), api.IS, true)
	}
	x.holders(table(2), lock.Hold{Who: math.MinInt64, Mode: api.IS}, lock.Hold{Who: -3, Mode: api.IS}, lock.Hold{Who: 0, Mode: api.IS},
		lock.Hold{Who: 5, Mode: api.IS}, lock.Hold{Who: 12, Mode: api.IS}, lock.Hold{Who: math.MaxInt64, Mode: api.IS})
	// Of what is held all is told, of what is waited for nothing.
	y := begin(t, 99)
	for i := range inOrder {
		s := inOrder[(i*17)%len(inOrder)]
		y.Ask(1, s, api.S)
	}
	y.ask(2, row(0, 77), api.X, true)
	y.ask(1, row(0, 77), api.S, false)
	var want []api.Spot
	for _, s := range inOrder {
		if s.Table >= 0 && (s.Row || s.Key == 0) {
			want = append(want, s)
		}
	}
	if got := y.Spots(1); !slices.Equal(got, want) {
		t.Errorf("it holds %v, want %v", got, want)
	}
	y.used(len(want) + 2)
	// Who upgrades holds the spot still, in what it held.
	y.ask(3, table(10), api.IS, true)
	y.ask(3, table(10), api.IX, false)
	if got := y.Spots(3); !slices.Equal(got, []api.Spot{table(10)}) {
		t.Errorf("it holds %v", got)
	}
	y.holders(table(10), lock.Hold{Who: 1, Mode: api.S}, lock.Hold{Who: 3, Mode: api.IS})
	y.queue(table(10), lock.Hold{Who: 3, Mode: api.IX})
	y.waitsFor(3, 1)
}

// For: of who holds and stands ahead alike, of who does one of it, and of who does neither.
func TestFor(t *testing.T) { // P11.4
	x, s := begin(t, 99), row(0, 1)
	for _, who := range []int64{7, 3, 5, 9} {
		x.ask(who, s, api.IS, true)
	}
	x.ask(9, s, api.IX, true)
	x.ask(4, s, api.S, false)  // 9 holds it in IX; 3, 5 and 7 go beside it
	x.ask(5, s, api.S, false)  // that upgrades
	x.ask(8, s, api.X, false)  // that goes beside none of them
	x.ask(3, s, api.X, false)  // that upgrades, behind 5
	x.ask(1, s, api.IS, false) // that goes beside all of them
	x.waitsFor(4, 3, 5, 9)
	x.waitsFor(5, 9)
	x.waitsFor(8, 3, 4, 5, 7, 9)
	x.waitsFor(3, 5, 7, 9)
	x.waitsFor(1, 3, 4, 5, 8)
	x.waitsFor(7)
	x.waitsFor(9)
	x.waitsFor(2)
	x.wakes(cancel(5))
	x.waitsFor(4, 3, 9)
	x.waitsFor(8, 3, 4, 5, 7, 9)
	x.waitsFor(3, 5, 7, 9)
}

// Held against the second reading.

// pair is a table of locks with its second reading.
type pair struct {
	locks *lock.Locks
	as    *locksAs
}

func newPair(most int) pair { return pair{lock.New(most), &locksAs{most: most}} }

// do makes a call of both, and tells what is wrong with it.
func (p pair) do(c call) string {
	got, want := c.of(p.locks), c.of(p.as)
	if got != want {
		return fmt.Sprintf("%v: %s, want %s", c, got, want)
	}
	return ""
}

func (p pair) differ(whos []int64, spots []api.Spot) string {
	if got, want := told(p.locks, whos, spots), told(p.as, whos, spots); got != want {
		return fmt.Sprintf("it tells\n%s\nwant\n%s", got, want)
	}
	return ""
}

// world is in which all states of a table are gone through.
type world struct {
	most  int
	whos  []int64
	spots []api.Spot
	modes []api.Mode
}

func (w world) calls() []call {
	var all []call
	for _, who := range w.whos {
		for _, s := range w.spots {
			for _, m := range w.modes {
				all = append(all, ask(who, s, m))
			}
			all = append(all, free(who, s))
		}
		all = append(all, cancel(who), leave(who))
	}
	return all
}

// goThrough makes each call in each state to which calls lead, and tells how many states there are.
func (w world) goThrough(t *testing.T) int {
	t.Helper()
	seen := map[string]struct{}{told(&locksAs{}, w.whos, w.spots): {}}
	ways := [][]call{nil}
	for i := 0; i < len(ways); i++ {
		for _, c := range w.calls() {
			p := newPair(w.most)
			for _, old := range ways[i] {
				p.do(old)
			}
			wrong := p.do(c)
			if wrong == "" {
				wrong = p.differ(w.whos, w.spots)
			}
			if wrong != "" {
				t.Fatalf("behind %v, %v: %s", ways[i], c, wrong)
			}
			state := told(p.as, w.whos, w.spots)
			if _, isThere := seen[state]; !isThere {
				seen[state] = struct{}{}
				ways = append(ways, append(slices.Clone(ways[i]), c))
			}
		}
	}
	return len(ways)
}

func TestAllStates(t *testing.T) { // P11.2, P11.3, P11.4
	for _, x := range []struct {
		world
		least int
	}{
		{world{9, []int64{1, 2}, []api.Spot{row(0, 1)}, modes}, 50},
		{world{9, []int64{-1, 0, 1}, []api.Spot{table(0)}, modes}, 500},
		{world{9, []int64{4, 3, 2, 1}, []api.Spot{row(2, -1)}, []api.Mode{api.S, api.X}}, 200},
		{world{2, []int64{1, 2, 3}, []api.Spot{row(0, 1)}, modes}, 100},
		{world{9, []int64{1, 2}, []api.Spot{row(0, 1), table(0)}, []api.Mode{api.IX, api.S}}, 100},
		{world{3, []int64{1, 2, 3}, []api.Spot{row(0, 1), table(0)}, []api.Mode{api.S, api.X}}, 100},
		{world{9, []int64{1, 2, 3}, []api.Spot{row(0, 1), row(0, 2)}, []api.Mode{api.X}}, 50},
	} {
		if got := x.goThrough(t); got < x.least {
			t.Errorf("%v: %d states: the test is not worth much", x.world, got)
		} else {
			t.Logf("%v: %d states", x.world, got)
		}
	}
}

// drawWorld is one with some numbers and spots.
func drawWorld(r *rand.Rand) world {
	w := world{most: []int{1, 2, 3, 5, 8, 13, 1000}[r.Intn(7)], modes: modes[r.Intn(5):]}
	for who := range 2 + r.Intn(7) {
		w.whos = append(w.whos, int64(who)-2)
	}
	w.spots = []api.Spot{row(0, 1)}
	if r.Intn(2) == 0 {
		w.spots = []api.Spot{table(1), row(1, 2), row(1, -2), row(0, 5), table(0)}[:1+r.Intn(5)]
	}
	return w
}

// drawCall is a call, which is right or, seldom, not.
func (w world) drawCall(r *rand.Rand) call {
	who, s := w.whos[r.Intn(len(w.whos))], w.spots[r.Intn(len(w.spots))]
	switch r.Intn(30) {
	case 0:
		bad := []call{ask(who, s, api.None), ask(who, s, api.Mode(6+r.Intn(250))), ask(who, table(-1), api.S), ask(who, api.Spot{Key: 1}, api.S),
			free(who, row(7, 7)), free(who, api.Spot{Key: 7}), free(77, s), cancel(77), leave(-77)}
		return bad[r.Intn(len(bad))]
	case 1, 2, 3:
		return leave(who)
	case 4, 5, 6:
		return cancel(who)
	case 7, 8, 9, 10, 11:
		return free(who, s)
	}
	return ask(who, s, w.modes[r.Intn(len(w.modes))])
}

// asked are the numbers of the calls by which those that wait began to.
type asked map[int64]int

// brokenIn tells what of what follows does not hold of a table, going by the table's own answers alone.
func brokenIn(l *lock.Locks, w world, since asked) string {
	entries := 0
	for _, s := range w.spots {
		holders := l.Holders(s)
		for _, a := range holders {
			for _, b := range holders {
				if a.Who != b.Who && !besideAs(a.Mode, b.Mode) {
					return fmt.Sprintf("%v and %v hold %s", a, b, spotText(s))
				}
			}
		}
		entries += len(holders)
		if wrong := brokenQueue(l, s, holders, since); wrong != "" {
			return wrong
		}
		for _, q := range l.Queue(s) {
			if l.Held(q.Who, s) == api.None {
				entries++
			}
		}
	}
	if entries != l.Used() {
		return fmt.Sprintf("%d entries, but %d are used", entries, l.Used())
	}
	return brokenWaiting(l, w)
}

// brokenQueue: the first one cannot be granted, who upgrades stands ahead, the others as they asked.
func brokenQueue(l *lock.Locks, s api.Spot, holders []lock.Hold, since asked) string {
	queue := l.Queue(s)
	for i, q := range queue {
		isStranger := func(h lock.Hold) bool { return h.Who != q.Who && !besideAs(h.Mode, q.Mode) }
		if i == 0 && !slices.ContainsFunc(holders, isStranger) {
			return fmt.Sprintf("%v is the first of the queue of %s, and can be granted", q, spotText(s))
		}
		if i == 0 {
			continue
		}
		upgrades, before := l.Held(q.Who, s) != api.None, l.Held(queue[i-1].Who, s) != api.None
		if upgrades && !before || upgrades == before && since[q.Who] < since[queue[i-1].Who] {
			return fmt.Sprintf("%v stands behind %v", q, queue[i-1])
		}
	}
	return ""
}

// brokenWaiting: who waits waits for somebody; where there is no ring, somebody does not wait.
func brokenWaiting(l *lock.Locks, w world) string {
	isSomebody, isFree := false, false
	for _, who := range w.whos {
		_, _, waits := l.Waits(who)
		if waits != (len(l.For(who)) > 0) {
			return fmt.Sprintf("%d waits: %v, for %v", who, waits, l.For(who))
		}
		if waits || len(l.Spots(who)) > 0 {
			isSomebody = true
			isFree = isFree || !waits
		}
	}
	if isSomebody && !isFree && !hasRing(l, w.whos) {
		return "all wait, but there is no ring"
	}
	return ""
}

func hasRing(l *lock.Locks, whos []int64) bool {
	for _, who := range whos {
		reached := l.For(who)
		for i := 0; i < len(reached); i++ {
			if reached[i] == who {
				return true
			}
			for _, next := range l.For(reached[i]) {
				if !slices.Contains(reached, next) {
					reached = append(reached, next)
				}
			}
		}
	}
	return false
}

// overtaken tells who does not upgrade, and was granted a spot by a call ahead of one that asked earlier; before are the
// holders of each spot ahead of the call.
func overtaken(before [][]lock.Hold, l *lock.Locks, c call, w world, since asked) string {
	for i, s := range w.spots {
		for _, h := range l.Holders(s) {
			if slices.ContainsFunc(before[i], func(b lock.Hold) bool { return b.Who == h.Who }) {
				continue
			}
			began, didWait := since[h.Who]
			for _, q := range l.Queue(s) {
				if l.Held(q.Who, s) == api.None && (!didWait || since[q.Who] < began) && q.Who != c.who {
					return fmt.Sprintf("%v: %v is granted ahead of %v", c, h, q)
				}
			}
		}
	}
	return ""
}

func TestDrawnCalls(t *testing.T) { // P11.2, P11.3, P11.4, P11.6
	r := rand.New(rand.NewSource(111))
	counts := map[string]int{}
	for range 1500 {
		w := drawWorld(r)
		p, since := newPair(w.most), asked{}
		var done []call
		for number := range 60 {
			c := w.drawCall(r)
			done = append(done, c)
			var before [][]lock.Hold
			for _, s := range w.spots {
				before = append(before, p.locks.Holders(s))
			}
			wrong := p.do(c)
			if wrong == "" {
				wrong = p.differ(append([]int64{77, -77}, w.whos...), append([]api.Spot{row(7, 7), {Key: 7}}, w.spots...))
			}
			if wrong == "" {
				wrong = overtaken(before, p.locks, c, w, since)
			}
			for _, who := range w.whos {
				_, _, waits := p.locks.Waits(who)
				if _, isThere := since[who]; waits && !isThere {
					since[who] = number
				} else if !waits {
					delete(since, who)
				}
			}
			if wrong == "" {
				wrong = brokenIn(p.locks, w, since)
			}
			if wrong != "" {
				t.Fatalf("room for %d: %v: %s", w.most, done, wrong)
			}
			countStates(counts, p.locks, c, w)
		}
	}
	for _, name := range []string{"waits", "upgrades", "two upgrade", "ring", "full", "long"} {
		if counts[name] < 1000 {
			t.Errorf("%s: %d times: the test is not worth much", name, counts[name])
		}
	}
}

func countStates(counts map[string]int, l *lock.Locks, c call, w world) {
	for _, s := range w.spots {
		queue := l.Queue(s)
		upgraders := 0
		for _, q := range queue {
			if l.Held(q.Who, s) != api.None {
				upgraders++
			}
		}
		if len(queue) > 0 {
			counts["waits"]++
		}
		if len(queue) > 3 {
			counts["long"]++
		}
		if upgraders > 0 {
			counts["upgrades"]++
		}
		if upgraders > 1 {
			counts["two upgrade"]++
		}
	}
	if hasRing(l, w.whos) {
		counts["ring"]++
	}
	if l.Used() == w.most {
		counts["full"]++
	}
}

// Memory.

// spoil writes over a list, what lies behind its length included.
func spoil[T any](l []T, filling T) {
	l = l[:cap(l)]
	for i := range l {
		l[i] = filling
	}
}

// crowd is a table with holders, upgraders and a queue, of several spots, with all that can be told of it.
func crowd(t *testing.T) (script, []int64, []api.Spot) {
	t.Helper()
	x, s := begin(t, 99), row(0, 1)
	x.ask(9, table(0), api.X, true)
	for who := int64(1); who <= 6; who++ {
		x.ask(who, row(0, -who), api.X, true)
		x.ask(who, s, api.IS, true)
	}
	x.ask(1, s, api.IX, true)
	for who := int64(2); who <= 4; who++ {
		x.ask(who, s, api.S, false)
	}
	x.ask(7, s, api.X, false)
	x.ask(8, s, api.IS, false)
	for who := int64(10); who <= 14; who++ {
		x.ask(who, table(0), api.S, false)
	}
	return x, []int64{1, 2, 3, 4, 5, 6, 7, 8, 9, 10, 11, 12, 13, 14}, []api.Spot{s, table(0), row(0, -1), row(0, -2), row(0, -6)}
}

func TestTheAnswerIsNewMemory(t *testing.T) { // P11.5
	x, whos, spots := crowd(t)
	want := told(x, whos, spots)
	for _, s := range spots {
		spoil(x.Holders(s), lock.Hold{Who: 99, Mode: api.X})
		spoil(x.Queue(s), lock.Hold{Who: 99, Mode: api.X})
	}
	for _, who := range whos {
		spoil(x.Spots(who), row(9, 9))
		spoil(x.For(who), 99)
	}
	if got := told(x, whos, spots); got != want {
		t.Errorf("an answer is the table's own:\n%s\nwas\n%s", got, want)
	}
	// Whom a call woke as well.
	y, _, _ := crowd(t)
	woken := [][]int64{x.Leave(9), x.Leave(1)}
	if again := [][]int64{y.Leave(9), y.Leave(1)}; !reflect.DeepEqual(woken, again) || len(woken[0]) != 5 || len(woken[1]) != 3 {
		t.Errorf("woken: %v, then %v", woken, again)
	}
	want = told(y, whos, spots)
	for _, l := range woken {
		spoil(l, 99)
	}
	if got := told(x, whos, spots); got != want {
		t.Errorf("an answer is the table's own:\n%s\nwas\n%s", got, want)
	}
}

func TestAnswersShareNothing(t *testing.T) { // P11.5
	x, whos, spots := crowd(t)
	// All are held, that none lies where one lay that is gone.
	var all []any
	for range 2 {
		for _, s := range spots {
			all = append(all, x.Holders(s), x.Queue(s))
		}
		for _, who := range whos {
			all = append(all, x.Spots(who), x.For(who))
		}
	}
	all = append(all, x.Leave(9), x.Leave(10), x.Leave(1), x.Leave(2), x.Leave(3))
	var spans [][2]uintptr
	for _, l := range all {
		if v := reflect.ValueOf(l); v.Cap() > 0 {
			spans = append(spans, [2]uintptr{v.Pointer(), v.Pointer() + uintptr(v.Cap())*v.Type().Elem().Size()})
		}
	}
	slices.SortFunc(spans, func(a, b [2]uintptr) int { return slices.Compare(a[:], b[:]) })
	for i := 1; i < len(spans); i++ {
		if spans[i][0] < spans[i-1][1] {
			t.Errorf("two answers share their memory")
		}
	}
	runtime.KeepAlive(all)
	if len(spans) < 30 {
		t.Errorf("%d answers: the test is not worth much", len(spans))
	}
}

// Tables are nothing to each other, and what is asked of one twice is answered twice alike.
func TestTheSameAgain(t *testing.T) {
	r := rand.New(rand.NewSource(112))
	w := world{most: 30, whos: []int64{1, 2, 3, 4, 5, 6, 7, 8}, spots: []api.Spot{row(0, 1), table(0), row(1, 1)}, modes: modes}
	var calls []call
	for range 3000 {
		calls = append(calls, w.drawCall(r))
	}
	answers := func() string {
		var b strings.Builder
		l := lock.New(w.most)
		for i, c := range calls {
			b.WriteString(c.of(l))
			if i%20 == 0 {
				b.WriteString(told(l, w.whos, w.spots))
				b.WriteString(told(l, w.whos, w.spots))
			}
		}
		return b.String()
	}
	want := answers()
	done := make(chan string)
	for range 4 {
		go func() { done <- answers() }()
	}
	for range 4 {
		if <-done != want {
			t.Error("the same calls are answered in another way")
		}
	}
}

func heap() uint64 {
	runtime.GC()
	var m runtime.MemStats
	runtime.ReadMemStats(&m)
	return m.HeapAlloc
}

// Of numbers and spots that are gone nothing is kept.
func TestNothingIsLeft(t *testing.T) { // P11.6
	x := begin(t, 4)
	before := heap()
	for i := int64(0); i < 300000; i += 3 {
		x.ask(i, row(0, i), api.X, true)
		x.ask(i+1, row(0, i), api.S, false)
		x.ask(i+2, row(0, i), api.S, false)
		x.wakes([]call{free(i, row(0, i)), leave(i)}[i%2], i+1, i+2)
		x.ask(i+1, row(0, i), api.X, false)
		x.wakes(cancel(i + 1))
		x.wakes([]call{free(i+1, row(0, i)), leave(i + 1)}[i%2])
		x.ask(i+1, row(0, i), api.X, false)
		x.wakes([]call{cancel(i + 1), leave(i + 1)}[i%2])
		x.wakes([]call{free(i+2, row(0, i)), leave(i + 2)}[i%2])
	}
	if now := heap(); now > before+1<<21 {
		t.Errorf("%d bytes were taken, now it is %d", before, now)
	}
	x.used(0)
}

// Sizes: what grows with the square of these is not done in time.

const many = 200000

func TestLongQueues(t *testing.T) { // P11.2, P11.3
	x, s := begin(t, many+1), row(0, 1)
	x.ask(0, s, api.X, true)
	for who := int64(1); who <= many; who++ {
		x.ask(who, s, api.S, false)
	}
	x.refused(ask(many+1, s, api.S), api.ErrLimit)
	// From the front, from behind, and out of the middle.
	for i := int64(0); i < many/10; i++ {
		x.wakes(cancel(i + 1))
		x.wakes(cancel(many - i))
		x.wakes(leave(many/2 + i))
	}
	woken, e := x.Free(0, s)
	if e != api.OK || len(woken) != many-3*(many/10) || !slices.IsSorted(woken) || len(x.Holders(s)) != len(woken) {
		t.Fatalf("%d are woken", len(woken))
	}
	x.used(len(woken))
	// Many hold it: whoever asks for it, and leaves it, is not held against each.
	for i := int64(0); i < many; i++ {
		x.ask(-1, s, api.X, false)
		x.wakes(cancel(-1))
	}
	for _, who := range woken[1:] {
		x.ask(who, s, api.X, false)
	}
	for _, who := range woken[1 : len(woken)-1] {
		x.wakes(leave(who))
	}
	x.wakes(leave(woken[0]), woken[len(woken)-1])
	x.used(1)
}

func TestManySpots(t *testing.T) { // P11.3, P11.4
	x := begin(t, math.MaxInt)
	for i := range int64(many) {
		x.ask(1, row(int(i%64), (i*7919)%many), api.X, true)
		x.ask(i+2, row(int(i%64), (i*7919)%many), api.X, false)
	}
	x.used(2 * many)
	spots := x.Spots(1)
	if len(spots) != many || !slices.IsSortedFunc(spots, byLess) {
		t.Fatalf("it holds %d", len(spots))
	}
	woken := x.Leave(1)
	if len(woken) != many {
		t.Fatalf("%d are woken", len(woken))
	}
	for i, who := range woken {
		if x.Held(who, spots[i]) != api.X {
			t.Fatalf("%d is woken by another one than %s", who, spotText(spots[i]))
		}
	}
	x.used(many)
	for who := range int64(many) {
		x.wakes(leave(who + 2))
	}
	x.used(0)
}
