package lock

import (
	"iter"

	"interlock/api"
	"interlock/mode"
)

// entry is what a number has of a spot: it holds it so, if held is not None; it waits for it with that wish, if that is
// not None.
type entry struct {
	who           int64
	spot          api.Spot
	held, wish    api.Mode
	ahead, behind *entry // in the line in which it waits
}

// spot is who holds a spot, and who waits for it.
type spot struct {
	holders   map[int64]*entry
	count     [api.X + 1]int // of the holders in each mode: a wish is held against the modes, not against each holder
	upgraders line
	others    line
}

// allows tells whether a wish can be granted.
func (x *spot) allows(e *entry, wish api.Mode) bool {
	for m := api.IS; m <= api.X; m++ {
		others := x.count[m]
		if m == e.held {
			others--
		}
		if others > 0 && !mode.Beside(wish, m) {
			return false
		}
	}
	return true
}

// hold lets an entry hold in that mode, and in no other one.
func (x *spot) hold(e *entry, m api.Mode) {
	x.free(e)
	x.holders[e.who] = e
	x.count[m]++
	e.held = m
}

// free lets an entry hold nothing.
func (x *spot) free(e *entry) {
	if e.held == api.None {
		return
	}
	delete(x.holders, e.who)
	x.count[e.held]--
	e.held = api.None
}

// wait puts an entry into the queue.
func (x *spot) wait(e *entry, wish api.Mode) {
	e.wish = wish
	x.lineOf(e).add(e)
}

// leave takes an entry that waits out of the queue.
func (x *spot) leave(e *entry) {
	x.lineOf(e).remove(e)
	e.wish = api.None
}

// lineOf is the line in which an entry waits. It stays the same one: as long as it waits, what it holds does not change.
func (x *spot) lineOf(e *entry) *line {
	if e.held != api.None {
		return &x.upgraders
	}
	return &x.others
}

// first is who stands first in the queue: nil, if nobody is in it.
func (x *spot) first() *entry {
	if x.upgraders.first != nil {
		return x.upgraders.first
	}
	return x.others.first
}

// queue are those that wait, in order.
func (x *spot) queue() iter.Seq[*entry] {
	return func(yield func(*entry) bool) {
		for _, e := range []*entry{x.upgraders.first, x.others.first} {
			for ; e != nil; e = e.behind {
				if !yield(e) {
					return
				}
			}
		}
	}
}

// line are entries that wait, as they came. They are linked, so that one that leaves is neither searched for nor closed
// up to: long queues would take the square of their length.
type line struct{ first, last *entry }

// add puts an entry behind all others.
func (q *line) add(e *entry) {
	e.ahead = q.last
	if q.last == nil {
		q.first = e
	} else {
		q.last.behind = e
	}
	q.last = e
}

// remove takes an entry out, wherever it stands.
func (q *line) remove(e *entry) {
	if e.ahead == nil {
		q.first = e.behind
	} else {
		e.ahead.behind = e.behind
	}
	if e.behind == nil {
		q.last = e.ahead
	} else {
		e.behind.ahead = e.ahead
	}
	e.ahead, e.behind = nil, nil
}
