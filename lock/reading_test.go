package lock_test

import (
	"fmt"
	"slices"
	"strings"

	"interlock/api"
	"interlock/lock"
)

// What the chapter says, read a second time and by other means than the package's own, for the tests to hold the package
// against: one list of entries, which is searched and sorted anew for each question.

// locks is what a table of locks can be asked, the package's own one and the one that is read here.
type locks interface {
	Ask(who int64, s api.Spot, m api.Mode) (bool, api.Errno)
	Free(who int64, s api.Spot) ([]int64, api.Errno)
	Cancel(who int64) ([]int64, api.Errno)
	Leave(who int64) []int64
	Held(who int64, s api.Spot) api.Mode
	Waits(who int64) (api.Spot, api.Mode, bool)
	Holders(s api.Spot) []lock.Hold
	Queue(s api.Spot) []lock.Hold
	Spots(who int64) []api.Spot
	Used() int
	For(who int64) []int64
}

// The modes as sets of what they allow, by which they are joined and covered.
var allowed = map[api.Mode]int{api.None: 0, api.IS: 1, api.IX: 1 | 2, api.S: 1 | 4, api.SIX: 1 | 2 | 4, api.X: 1 | 2 | 4 | 8}

// Which modes go beside each other, both ways round.
var beside = map[api.Mode]string{api.None: "yyyyyy", api.IS: "yyyyyn", api.IX: "yyynnn", api.S: "yynynn", api.SIX: "yynnnn", api.X: "ynnnnn"}

func besideAs(a, b api.Mode) bool { return beside[a][b] == 'y' }

func coversAs(a, b api.Mode) bool { return allowed[a]|allowed[b] == allowed[a] }

func joinAs(a, b api.Mode) api.Mode {
	for m, set := range allowed {
		if set == allowed[a]|allowed[b] {
			return m
		}
	}
	panic("no mode")
}

func lessAs(a, b api.Spot) bool {
	if a.Table != b.Table {
		return a.Table < b.Table
	}
	if a.Row != b.Row {
		return b.Row
	}
	return a.Key < b.Key
}

// entryAs is an entry. It waits, if its wish is not None, since the call of that number.
type entryAs struct {
	who        int64
	spot       api.Spot
	held, wish api.Mode
	since      int
}

type locksAs struct {
	most, calls int
	all         []entryAs
}

func (l *locksAs) has(good func(entryAs) bool) int { return slices.IndexFunc(l.all, good) }

func (l *locksAs) of(who int64, s api.Spot) int {
	return l.has(func(e entryAs) bool { return e.who == who && e.spot == s })
}

func (l *locksAs) waits(who int64) int {
	return l.has(func(e entryAs) bool { return e.who == who && e.wish != api.None })
}

// queue are the places of those that wait, in order.
func (l *locksAs) queue(s api.Spot) []int {
	var places []int
	for i, e := range l.all {
		if e.spot == s && e.wish != api.None {
			places = append(places, i)
		}
	}
	slices.SortFunc(places, func(a, b int) int {
		if up := l.all[a].held != api.None; up != (l.all[b].held != api.None) {
			if up {
				return -1
			}
			return 1
		}
		return l.all[a].since - l.all[b].since
	})
	return places
}

func (l *locksAs) canBeGranted(who int64, s api.Spot, wish api.Mode) bool {
	return l.has(func(e entryAs) bool { return e.spot == s && e.who != who && !besideAs(wish, e.held) }) < 0
}

func (l *locksAs) sweep() {
	l.all = slices.DeleteFunc(l.all, func(e entryAs) bool { return e.held == api.None && e.wish == api.None })
}

func (l *locksAs) regrant(s api.Spot) []int64 {
	var woken []int64
	for places := l.queue(s); len(places) > 0; places = l.queue(s) {
		e := &l.all[places[0]]
		if !l.canBeGranted(e.who, s, e.wish) {
			break
		}
		e.held, e.wish = e.wish, api.None
		woken = append(woken, e.who)
	}
	return woken
}

func (l *locksAs) Ask(who int64, s api.Spot, m api.Mode) (bool, api.Errno) {
	l.calls++
	if m < api.IS || m > api.X || !s.Row && s.Key != 0 || s.Table < 0 {
		return false, api.ErrArg
	}
	if l.waits(who) >= 0 {
		return false, api.ErrState
	}
	if coversAs(l.Held(who, s), m) {
		return true, api.OK
	}
	at := l.of(who, s)
	if at < 0 {
		if len(l.all) >= l.most {
			return false, api.ErrLimit
		}
		l.all = append(l.all, entryAs{who: who, spot: s})
		at = len(l.all) - 1
	}
	e := &l.all[at]
	wish := joinAs(e.held, m)
	if l.canBeGranted(who, s, wish) && (e.held != api.None || len(l.queue(s)) == 0) {
		e.held = wish
		return true, api.OK
	}
	e.wish, e.since = wish, l.calls
	return false, api.OK
}

func (l *locksAs) Free(who int64, s api.Spot) ([]int64, api.Errno) {
	if l.waits(who) >= 0 {
		return nil, api.ErrState
	}
	at := l.of(who, s)
	if at < 0 {
		return nil, api.ErrNone
	}
	l.all[at].held = api.None
	l.sweep()
	return l.regrant(s), api.OK
}

func (l *locksAs) Cancel(who int64) ([]int64, api.Errno) {
	at := l.waits(who)
	if at < 0 {
		return nil, api.ErrNone
	}
	s := l.all[at].spot
	l.all[at].wish = api.None
	l.sweep()
	return l.regrant(s), api.OK
}

func (l *locksAs) Leave(who int64) []int64 {
	var spots []api.Spot
	for i, e := range l.all {
		if e.who == who {
			spots = append(spots, e.spot)
			l.all[i].held, l.all[i].wish = api.None, api.None
		}
	}
	l.sweep()
	slices.SortFunc(spots, byLess)
	var woken []int64
	for _, s := range spots {
		woken = append(woken, l.regrant(s)...)
	}
	return woken
}

func byLess(a, b api.Spot) int {
	if lessAs(a, b) {
		return -1
	}
	if lessAs(b, a) {
		return 1
	}
	return 0
}

func (l *locksAs) Held(who int64, s api.Spot) api.Mode {
	if at := l.of(who, s); at >= 0 {
		return l.all[at].held
	}
	return api.None
}

func (l *locksAs) Waits(who int64) (api.Spot, api.Mode, bool) {
	if at := l.waits(who); at >= 0 {
		return l.all[at].spot, l.all[at].wish, true
	}
	return api.Spot{}, api.None, false
}

func (l *locksAs) Holders(s api.Spot) []lock.Hold {
	var all []lock.Hold
	for _, e := range l.all {
		if e.spot == s && e.held != api.None {
			all = append(all, lock.Hold{Who: e.who, Mode: e.held})
		}
	}
	slices.SortFunc(all, func(a, b lock.Hold) int {
		if a.Who < b.Who {
			return -1
		}
		return 1
	})
	return all
}

func (l *locksAs) Queue(s api.Spot) []lock.Hold {
	var all []lock.Hold
	for _, at := range l.queue(s) {
		all = append(all, lock.Hold{Who: l.all[at].who, Mode: l.all[at].wish})
	}
	return all
}

func (l *locksAs) Spots(who int64) []api.Spot {
	var all []api.Spot
	for _, e := range l.all {
		if e.who == who && e.held != api.None {
			all = append(all, e.spot)
		}
	}
	slices.SortFunc(all, byLess)
	return all
}

func (l *locksAs) Used() int { return len(l.all) }

func (l *locksAs) For(who int64) []int64 {
	at := l.waits(who)
	if at < 0 {
		return nil
	}
	own := l.all[at]
	isAhead := true
	var all []int64
	for _, place := range l.queue(own.spot) {
		isAhead = isAhead && place != at
		if isAhead {
			all = append(all, l.all[place].who)
		}
	}
	for _, e := range l.all {
		if e.spot == own.spot && e.who != who && !besideAs(own.wish, e.held) && !slices.Contains(all, e.who) {
			all = append(all, e.who)
		}
	}
	slices.Sort(all)
	return all
}

// told is all that a table tells of these numbers and spots.
func told(l locks, whos []int64, spots []api.Spot) string {
	var b strings.Builder
	fmt.Fprintf(&b, "used %d", l.Used())
	for _, s := range spots {
		fmt.Fprintf(&b, "\n%s: held %v, queue %v, each", spotText(s), l.Holders(s), l.Queue(s))
		for _, who := range whos {
			fmt.Fprintf(&b, " %d", l.Held(who, s))
		}
	}
	for _, who := range whos {
		s, m, waits := l.Waits(who)
		fmt.Fprintf(&b, "\n%d: %v %s %d, holds", who, waits, spotText(s), m)
		for _, s := range l.Spots(who) {
			fmt.Fprintf(&b, " %s", spotText(s))
		}
		fmt.Fprintf(&b, ", for %v", l.For(who))
	}
	return b.String()
}

func spotText(s api.Spot) string {
	if s.Row {
		return fmt.Sprintf("%d[%d]", s.Table, s.Key)
	}
	return fmt.Sprintf("%d/%d", s.Table, s.Key)
}
