package waits_test

import (
	"fmt"
	"math"
	"math/rand"
	"reflect"
	"runtime"
	"slices"
	"strings"
	"testing"

	"interlock/waits"
)

// short cuts what a failed test shows.
func short(x any) string {
	s := fmt.Sprint(x)
	if len(s) > 1600 {
		return s[:800] + " .. " + s[len(s)-800:]
	}
	return s
}

// graph is one from a text: node by node, with a comma between two, the numbers to which it points; a point stands for none.
func graph(text string) waits.Graph {
	var g waits.Graph
	if text == "" {
		return g
	}
	for part := range strings.SplitSeq(text, ",") {
		var list []int
		for _, word := range strings.Fields(part) {
			var n int
			if word == "." {
				continue
			}
			if _, err := fmt.Sscan(word, &n); err != nil {
				panic(text)
			}
			list = append(list, n)
		}
		g = append(g, list)
	}
	return g
}

// list is one from a text of numbers.
func list(text string) []int {
	var all []int
	for _, l := range graph(text) {
		all = append(all, l...)
	}
	return all
}

// rows are lists from a text, with a comma between two.
func rows(text string) [][]int { return graph(text) }

func wantRing(t *testing.T, text string, from int, want string) {
	t.Helper()
	if got := waits.Ring(graph(text), from); !slices.Equal(got, list(want)) {
		t.Errorf("%s: Ring %d: %v, want %s", text, from, got, want)
	}
}

func wantAcyclic(t *testing.T, text string, want bool) {
	t.Helper()
	if got := waits.Acyclic(graph(text)); got != want {
		t.Errorf("%s: Acyclic: %v", text, got)
	}
}

func wantParts(t *testing.T, text string, want string) {
	t.Helper()
	if got := waits.Parts(graph(text)); !sameRows(got, rows(want)) {
		t.Errorf("%s: Parts: %v, want %s", text, got, want)
	}
}

func wantReach(t *testing.T, text string, from int, want string) {
	t.Helper()
	if got := waits.Reach(graph(text), from); !slices.Equal(got, list(want)) {
		t.Errorf("%s: Reach %d: %v, want %s", text, from, got, want)
	}
}

// wantSorted asks for an order, or for none, if ok is false.
func wantSorted(t *testing.T, text string, want string, ok bool) {
	t.Helper()
	if got, isSorted := waits.Sorted(graph(text)); !slices.Equal(got, list(want)) || isSorted != ok {
		t.Errorf("%s: Sorted: %v %v, want %s %v", text, got, isSorted, want, ok)
	}
	wantAcyclic(t, text, ok)
}

func sameRows(a, b [][]int) bool { return slices.EqualFunc(a, b, slices.Equal[[]int]) }

// The chapter's examples.
func TestExamples(t *testing.T) { // P12.1 to P12.5
	const ring = "1, 0 2, 0"
	wantRing(t, ring, 0, "0 1")
	wantRing(t, ring, 2, "2 0 1")
	wantAcyclic(t, ring, false)
	wantParts(t, ring, "0 1 2")

	const none = "1 2, 2, ."
	wantRing(t, none, 0, "")
	wantSorted(t, none, "0 1 2", true)
	wantReach(t, none, 0, "1 2")

	wantRing(t, "0", 0, "0")
}

// outside are numbers that no node of so many has.
func outside(count int) []int {
	return []int{math.MinInt, math.MinInt32, -count - 1, -2, -1, count, count + 1, 2*count + 1, math.MaxInt32, 1 << 32, math.MaxInt - 1, math.MaxInt}
}

// Graphs without nodes, however they are handed in.
func TestNoNodes(t *testing.T) { // P12.1 to P12.5
	for _, g := range []waits.Graph{nil, {}, make(waits.Graph, 0, 3)} {
		for _, from := range append(outside(0), outside(3)...) {
			if l := waits.Ring(g, from); len(l) > 0 {
				t.Errorf("Ring %d: %v", from, l)
			}
			if l := waits.Reach(g, from); len(l) > 0 {
				t.Errorf("Reach %d: %v", from, l)
			}
		}
		if !waits.Acyclic(g) {
			t.Error("a ring of no nodes")
		}
		if l := waits.Parts(g); len(l) > 0 {
			t.Errorf("Parts: %v", l)
		}
		if l, ok := waits.Sorted(g); len(l) > 0 || !ok {
			t.Errorf("Sorted: %v %v", l, ok)
		}
	}
}

// A from that is no node has neither a ring nor anything that it reaches, whatever points to that number.
func TestNoSuchNode(t *testing.T) { // P12.1, P12.4
	for _, text := range []string{".", "0", "1", "-1", "1, 0", "1 2, 2 -1, 0 3", ". , . , .", "0 1 2 3, 0 1 2 3, 0 1 2 3"} {
		g := graph(text)
		for _, from := range outside(len(g)) {
			wantRing(t, text, from, "")
			wantReach(t, text, from, "")
			if from == len(g) {
				continue
			}
			// Nor if a node points to just that one.
			h := append(slices.Clone(g), []int{from, 0})
			if l := waits.Ring(h, from); len(l) > 0 {
				t.Errorf("%v: Ring %d: %v", h, from, l)
			}
			if l := waits.Reach(h, from); len(l) > 0 {
				t.Errorf("%v: Reach %d: %v", h, from, l)
			}
		}
	}
}

// One node.
func TestOneNode(t *testing.T) { // P12.1 to P12.5
	for _, text := range []string{".", "1", "-1", "2 1 -1", "9 9 9223372036854775807 -9223372036854775808"} {
		wantRing(t, text, 0, "")
		wantReach(t, text, 0, "")
		wantParts(t, text, "0")
		wantSorted(t, text, "0", true)
	}
	for _, text := range []string{"0", "0 0", "1 0", "-1 0 1", "0 -9223372036854775808 0"} {
		wantRing(t, text, 0, "0")
		wantReach(t, text, 0, "0")
		wantParts(t, text, "0")
		wantSorted(t, text, "", false)
	}
}

// Numbers that are none of the nodes point nowhere, in whatever order they stand, and how often.
func TestNumbersThatAreNoNodes(t *testing.T) { // P12.1 to P12.5
	for _, text := range []string{"1, 2, .", "1, 0, 2", ". , . , .", "1, 2, 0", "0 1 2, 1, 0 2", "2, ., 0"} {
		g := graph(text)
		h := make(waits.Graph, len(g))
		for n, to := range g {
			for i, x := range outside(len(g)) {
				h[n] = append(h[n], x)
				if len(to) > 0 {
					h[n] = append(h[n], to[(i+n)%len(to)])
				}
			}
		}
		if got, want := told(h), told(g); got != want {
			t.Errorf("%v:\n%s\nwant as of %s:\n%s", h, got, text, want)
		}
		hold(t, h)
	}
}

// told is all that is answered of a graph.
func told(g waits.Graph) string {
	var b strings.Builder
	for from := -1; from <= len(g); from++ {
		fmt.Fprintln(&b, from, waits.Ring(g, from), waits.Reach(g, from))
	}
	sorted, ok := waits.Sorted(g)
	fmt.Fprint(&b, waits.Parts(g), sorted, ok, waits.Acyclic(g))
	return b.String()
}

// Ring.

func TestRing(t *testing.T) { // P12.1
	for _, x := range []struct {
		text string
		from int
		want string
	}{
		// Of one step, of two, and of all nodes.
		{"0 1, 0", 0, "0"},
		{"1 0, 0", 0, "0"},
		{"1, 0", 0, "0 1"},
		{"1, 0", 1, "1 0"},
		{"., 2, 1", 1, "1 2"},
		{"., 2, 1", 2, "2 1"},
		{"1, 2, 3, 4, 0", 0, "0 1 2 3 4"},
		{"1, 2, 3, 4, 0", 3, "3 4 0 1 2"},
		{"4, 0, 1, 2, 3", 2, "2 1 0 4 3"},
		{"2, 4, 3, 1, 0", 4, "4 0 2 3 1"},
		// None: no way goes back.
		{"1 2, 2, .", 1, ""},
		{"1, 2, 3, .", 0, ""},
		{"1 1, .", 0, ""},
		{". , 0, 0 1", 2, ""},
		// Rings that do not go through from.
		{"1, 2, 1", 0, ""},
		{"1, 1", 0, ""},
		{"1, 2, 3, 1", 0, ""},
		{"1 0, 2, 1", 0, "0"},
		{"., 2 0, 1 0", 0, ""},
		{"1 3, 2, 1, 0", 0, "0 3"},
		{"1, 2, 1 3, 0", 0, "0 1 2 3"},
		// Of several of one length the first one: by its second node, by its third one, by its last one.
		{"3 2 1, 0, 0, 0", 0, "0 1"},
		{"3 2, 0, 0, 0", 0, "0 2"},
		{"2 1, 3 4, 4, 0, 0", 0, "0 1 3"},
		{"1 2, 4, 3, 0, 0", 0, "0 1 4"},
		{"2 1, 4, 3, 0, 0", 0, "0 1 4"},
		{"1, 3 2, 5 4, 4 5, 0, 0", 0, "0 1 2 4"},
		{"1, 3, 0, 5 4, 0, 0", 0, "0 1 3 4"},
		{"., 4 3, ., 5, 5, 1", 1, "1 3 5"},
		{"5, 5, 5, 5, 5, 4 3 2 1", 5, "5 1"},
		// The lesser one ahead counts, though one behind it has a lesser one then.
		{"5 4, ., ., 0, 2 3, 1 3, .", 0, "0 4 3"},
		{"4 5, ., 0, 0, 3, 2", 0, "0 4 3"},
		// The shorter one, though a longer one is ahead by its nodes.
		{"1 3, 2, 0, 0", 0, "0 3"},
		{"3 1, 2, 0, 0", 0, "0 3"},
		{"1 2 3, 2, 3, 0", 0, "0 3"},
		{"1 2, 3, 4, 4, 0", 0, "0 2 4"},
		{"1 0, 0", 0, "0"},
		{"1, 2 5, 3, 4, 0, 0", 0, "0 1 5"},
		// A node that is pointed to twice, and beside numbers that are none.
		{"9 1 1 -1, 0 0", 0, "0 1"},
		{"2 2 1 1 2, 0 3 0, 0 0", 0, "0 1"},
	} {
		wantRing(t, x.text, x.from, x.want)
	}
}

// How a node's points are told changes nothing: in any order, some twice, with numbers that are no nodes.
func TestTheOrderOfPoints(t *testing.T) { // P12.1 to P12.5
	r := rand.New(rand.NewSource(120))
	for range 3000 {
		g := drawGraph(r, 1+r.Intn(7))
		h := make(waits.Graph, len(g))
		for n, to := range g {
			h[n] = slices.Compact(slices.Sorted(slices.Values(to)))
			h[n] = slices.DeleteFunc(h[n], func(m int) bool { return m < 0 || m >= len(g) })
		}
		if got, want := told(g), told(h); got != want {
			t.Fatalf("%v:\n%s\nwant as of %v:\n%s", g, got, h, want)
		}
	}
}

// Acyclic and Sorted.

func TestSorted(t *testing.T) { // P12.2, P12.5
	for _, x := range []struct{ text, want string }{
		{". , .", "0 1"},
		{". , . , . , .", "0 1 2 3"},
		{"1, .", "0 1"},
		{". , 0", "1 0"},
		{"1, 2, 3, .", "0 1 2 3"},
		{"., 0, 1, 2", "3 2 1 0"},
		// Of several that could be next the least one, that which can be next only now included.
		{"., 0, ., 0", "1 2 3 0"},
		{"3, ., 1, .", "0 2 1 3"},
		{"., ., 0, 1", "2 0 3 1"},
		{"., 3, ., 0", "1 2 3 0"},
		{"4, 0, ., ., 3", "1 0 2 4 3"},
		{". , 0, 0, 2 1", "3 1 2 0"},
		{". , 0, 0, 1 2", "3 1 2 0"},
		{"., ., ., ., 2 1, 0 3", "4 1 2 5 0 3"},
		{"., 5, ., ., 5, 0", "1 2 3 4 5 0"},
		{"5, 5, 5, 5, 5, .", "0 1 2 3 4 5"},
		// Two ways to one node: the longer one counts.
		{"1 2, 2, .", "0 1 2"},
		{"3 1, 2, 3, .", "0 1 2 3"},
		// Points twice, and to what is no node.
		{"1 1 1, .", "0 1"},
		{"., 0 0, 1 0 1", "2 1 0"},
		{"9 -1, 0 0 2", "1 0"},
		{"2 2, 2 2, 3 3 9, -7 4", "0 1 2 3"},
	} {
		wantSorted(t, x.text, x.want, true)
	}
}

func TestRingsAreNotSorted(t *testing.T) { // P12.2, P12.5
	for _, text := range []string{
		"0", "0 0", "1, 0", "1, 1", "0 1, .", "., 1", "., 0 1", "1, 2, 0", "1, 2, 1", "1, 2, 2", "., 0 2, 1", "1, 2, 3, 0", "2, ., 3, 0", "1, ., 3, 2",
		// One node that points to itself alone, at each place.
		"0, ., .", "., 1, .", "., ., 2", "1, 2, 2", "1 0, 2, .",
		// A ring behind all others, and one ahead of all.
		"1 2 3 4, 2 3 4, 3 4, 4, 3", "1, 0, 0 1, 0 1 2, 0 1 2 3", "1, 2, 3, 4, 5, 6, 0", ". , 2, 3, 4, 5, 6, 1 0",
	} {
		wantSorted(t, text, "", false)
	}
}

// Parts.

func TestParts(t *testing.T) { // P12.3
	for _, x := range []struct{ text, want string }{
		{". , . , .", "0, 1, 2"},
		{"0, ., 2", "0, 1, 2"},
		{"1, 2, .", "0, 1, 2"},
		{"., 0, 1", "0, 1, 2"},
		{"1, 0", "0 1"},
		{"1, 0, 3, 2", "0 1, 2 3"},
		{"3, 2, 1, 0", "0 3, 1 2"},
		{"2, 3, 0, 1", "0 2, 1 3"},
		{"4, ., 3, 2, 0", "0 4, 1, 2 3"},
		{"1, 2, 0", "0 1 2"},
		{"2, 0, 1", "0 1 2"},
		// A way there, and none back.
		{"1 2, 0 3, 3, 2", "0 1, 2 3"},
		{"1, 0, 3 0, 2 1", "0 1, 2 3"},
		{"1 3, 0, 3, 2", "0 1, 2 3"},
		{"1 3, 0, 1 3, 2", "0 1 2 3"},
		{"1, 2, 1", "0, 1 2"},
		{"1, 0, 1", "0 1, 2"},
		// Rows whose first nodes rise, though their last ones fall, and others stand between them.
		{"5, 4, 3, 2, 1, 0", "0 5, 1 4, 2 3"},
		{"3, ., 5, 6, ., 2, 0", "0 3 6, 1, 2 5, 4"},
		// Rings that share a node.
		{"1 2, 0, 0", "0 1 2"},
		{"1, 0 2, 1 3, 2", "0 1 2 3"},
		{"1, 2, 0 3, 4, 2, 0", "0 1 2 3 4, 5"},
		// Points twice, and to what is no node.
		{"1 1 9, 0 0 -1, 3 1, 3", "0 1, 2, 3"},
	} {
		wantParts(t, x.text, x.want)
	}
}

// Reach.

func TestReach(t *testing.T) { // P12.4
	for _, x := range []struct {
		text string
		from int
		want string
	}{
		// One that does not reach itself, and one that does.
		{"1, .", 0, "1"},
		{"1, .", 1, ""},
		{"1, 0", 0, "0 1"},
		{"0 1, .", 0, "0 1"},
		{"1, 1", 0, "1"},
		{"1, 1", 1, "1"},
		{"., 1, .", 1, "1"},
		{"., 1, .", 0, ""},
		// Rising, however it was come to them.
		{"4 2 3, ., ., 1, .", 0, "1 2 3 4"},
		{"., 0, 1, 2, 3", 4, "0 1 2 3"},
		{"., 0, 1, 2, 3", 2, "0 1"},
		{"4, 0, 1, 2, 3", 2, "0 1 2 3 4"},
		{"3, 0, ., 1, 2", 0, "0 1 3"},
		{"2 1, 3, 4, ., ., 0", 0, "1 2 3 4"},
		// Rings behind it, through which it does not go.
		{"1, 2, 3, 1", 0, "1 2 3"},
		{"1, 2, 3, 1", 2, "1 2 3"},
		// Points twice, and to what is no node.
		{"9 1 1 -1, 2 2, .", 0, "1 2"},
		{"3 -4, .", 0, ""},
	} {
		wantReach(t, x.text, x.from, x.want)
	}
}

// What follows.

// hold holds all that is answered of a graph against the second reading, and against what follows.
func hold(t *testing.T, g waits.Graph) {
	t.Helper()
	froms := append(outside(len(g)), slices.Collect(below(len(g)))...)
	for _, from := range froms {
		want := ringBySteps(g, from)
		if len(g) <= 6 {
			if all := ringAs(g, from); !slices.Equal(all, want) {
				t.Fatalf("%s: the second readings differ: Ring %d: %v, %v", short(g), from, all, want)
			}
		}
		ring := waits.Ring(g, from)
		if !slices.Equal(ring, want) {
			t.Fatalf("%s: Ring %d: %v, want %v", short(g), from, ring, want)
		}
		reach := waits.Reach(g, from)
		if want := reachAs(g, from); !slices.Equal(reach, want) {
			t.Fatalf("%s: Reach %d: %v, want %v", short(g), from, reach, want)
		}
		if len(ring) > 0 != slices.Contains(reach, from) {
			t.Fatalf("%s: Ring %d: %v, but it reaches %v", short(g), from, ring, reach)
		}
	}
	parts := waits.Parts(g)
	if want := partsAs(g); !sameRows(parts, want) {
		t.Fatalf("%s: Parts: %v, want %v", short(g), parts, want)
	}
	acyclic := waits.Acyclic(g)
	if want := acyclicAs(g); acyclic != want {
		t.Fatalf("%s: Acyclic: %v", short(g), acyclic)
	}
	sorted, ok := waits.Sorted(g)
	if want, wantOk := sortedAs(g); !slices.Equal(sorted, want) || ok != wantOk {
		t.Fatalf("%s: Sorted: %v %v, want %v %v", short(g), sorted, ok, want, wantOk)
	}
	holdWhatFollows(t, g, parts, acyclic, ok)
}

// below are the numbers below count.
func below(count int) func(yield func(int) bool) {
	return func(yield func(int) bool) {
		for n := range count {
			if !yield(n) {
				return
			}
		}
	}
}

func holdWhatFollows(t *testing.T, g waits.Graph, parts [][]int, acyclic, sorted bool) {
	t.Helper()
	if sorted != acyclic {
		t.Fatalf("%s: Acyclic: %v, but Sorted: %v", short(g), acyclic, sorted)
	}
	alone := true
	for _, part := range parts {
		alone = alone && len(part) == 1 && !slices.Contains(g[part[0]], part[0])
	}
	if alone != acyclic {
		t.Fatalf("%s: Acyclic: %v, but Parts: %v", short(g), acyclic, parts)
	}
	if !acyclic || len(g) == 0 {
		return
	}
	for n := range g {
		if len(waits.Reach(g, n)) == 0 {
			return
		}
	}
	t.Fatalf("%s: without a ring, but each node points to one", short(g))
}

// All graphs of so many nodes.
func eachGraph(count int, try func(g waits.Graph)) {
	for set := range 1 << (count * count) {
		g := make(waits.Graph, count)
		for i := range count * count {
			if set>>i&1 == 1 {
				g[i/count] = append(g[i/count], i%count)
			}
		}
		try(g)
	}
}

func TestAllSmallGraphs(t *testing.T) { // P12.1 to P12.5, P12.7
	seen := 0
	for count := range 5 {
		eachGraph(count, func(g waits.Graph) {
			hold(t, g)
			seen++
		})
	}
	if seen != 1+2+16+512+65536 {
		t.Errorf("%d graphs", seen)
	}
}

// drawGraph draws a graph of so many nodes: its points in any order, some twice, some to what is no node.
func drawGraph(r *rand.Rand, count int) waits.Graph {
	g := make(waits.Graph, count)
	most := []int{1, 2, 3, 1 + count}[r.Intn(4)]
	for n := range g {
		for range r.Intn(most + 1) {
			m := r.Intn(count)
			if r.Intn(8) == 0 {
				m = outside(count)[r.Intn(len(outside(count)))]
			}
			g[n] = append(g[n], m)
			if r.Intn(8) == 0 {
				g[n] = append(g[n], m)
			}
		}
		r.Shuffle(len(g[n]), func(a, b int) { g[n][a], g[n][b] = g[n][b], g[n][a] })
	}
	return g
}

// drawAcyclic draws a graph without rings, whose nodes stand in a drawn order.
func drawAcyclic(r *rand.Rand, count int) waits.Graph {
	order := r.Perm(count)
	g := drawGraph(r, count)
	place := make([]int, count)
	for i, n := range order {
		place[n] = i
	}
	for n := range g {
		g[n] = slices.DeleteFunc(g[n], func(m int) bool { return m >= 0 && m < count && place[m] <= place[n] })
	}
	return g
}

func TestDrawnGraphs(t *testing.T) { // P12.1 to P12.5, P12.7
	r := rand.New(rand.NewSource(121))
	rings, sorted, several := 0, 0, 0
	for i := range 9000 {
		count := 1 + r.Intn(8)
		if i%4 == 0 {
			count = 1 + r.Intn(25)
		}
		g := drawGraph(r, count)
		if r.Intn(4) == 0 {
			g = drawAcyclic(r, count)
		}
		hold(t, g)
		for n := range g {
			if len(waits.Ring(g, n)) > 2 {
				rings++
			}
		}
		if waits.Acyclic(g) && count > 3 {
			sorted++
		}
		if l := len(waits.Parts(g)); 1 < l && l < count-1 {
			several++
		}
	}
	if rings < 2000 || sorted < 1000 || several < 1000 {
		t.Errorf("%d longer rings, %d without, %d of several parts: the test is not worth much", rings, sorted, several)
	}
}

// Graphs in layers, which have many rings of one length through a node.
func TestManyRingsOfOneLength(t *testing.T) { // P12.1
	r := rand.New(rand.NewSource(122))
	longest := 0
	for range 600 {
		count := 8 + r.Intn(20)
		depth := 2 + r.Intn(4)
		layer := make([]int, count)
		for n := range layer {
			layer[n] = 1 + r.Intn(depth-1+1)
		}
		from := r.Intn(count)
		layer[from] = 0
		g := make(waits.Graph, count)
		for a := range g {
			for b := range g {
				if layer[b] == (layer[a]+1)%(depth+1) && r.Intn(2) == 0 {
					g[a] = append(g[a], b)
				}
			}
			r.Shuffle(len(g[a]), func(i, k int) { g[a][i], g[a][k] = g[a][k], g[a][i] })
		}
		hold(t, g)
		longest = max(longest, len(waits.Ring(g, from)))
	}
	if longest < 6 {
		t.Errorf("the longest one has %d nodes: the test is not worth much", longest)
	}
}

// Memory.

// behind is a list with room behind it, which is filled with what would spoil it.
func behind[T any](l []T, filling ...T) []T {
	return append(slices.Clone(l), filling...)[:len(l)]
}

// roomy is a graph with room behind each list: behind the last node there are others, which point to it.
func roomy(g waits.Graph) waits.Graph {
	h := waits.Graph(behind(g, []int{0, 1}, []int{len(g)}))
	for n := range h {
		h[n] = behind(h[n], 0, n, len(g)-1, len(g), -1)
	}
	return h
}

// laid tells all of a graph's memory, what lies behind its lists included.
func laid(g waits.Graph) string {
	var b strings.Builder
	for _, l := range g[:cap(g)] {
		fmt.Fprint(&b, len(l), l[:cap(l)])
	}
	return b.String()
}

// spans tells of each list of a value, those within it too, from where to where its memory goes.
func spans(x any) [][2]uintptr {
	var all [][2]uintptr
	var look func(v reflect.Value)
	look = func(v reflect.Value) {
		if v.Kind() != reflect.Slice {
			return
		}
		if v.Cap() > 0 {
			first := v.Pointer()
			all = append(all, [2]uintptr{first, first + uintptr(v.Cap())*v.Type().Elem().Size()})
		}
		for i := range v.Len() {
			look(v.Index(i))
		}
	}
	look(reflect.ValueOf(x))
	return all
}

// someGraphs are graphs of each kind.
func someGraphs(seed int64, count int) []waits.Graph {
	r := rand.New(rand.NewSource(seed))
	all := []waits.Graph{nil, {}, graph("."), graph("0"), graph("1, 2, 0"), graph("1 2, 2, ."), graph(". , . , .")}
	for i := range count {
		if i%3 == 0 {
			all = append(all, drawAcyclic(r, 1+r.Intn(9)))
		} else {
			all = append(all, drawGraph(r, 1+r.Intn(9)))
		}
	}
	return all
}

func TestWhatIsHandedInIsOnlyRead(t *testing.T) { // P12.6
	for _, g := range someGraphs(123, 3000) {
		h := roomy(g)
		before := laid(h)
		hold(t, h)
		if got := laid(h); got != before {
			t.Fatalf("%v: written to: %s, was %s", g, got, before)
		}
		if got, want := told(h), told(g); got != want {
			t.Fatalf("%v: what lies behind was asked:\n%s\nwant\n%s", g, got, want)
		}
	}
}

// Two nodes may have one list, or parts of one, when they are handed in.
func TestListsThatAreShared(t *testing.T) { // P12.6
	l := []int{2, 0, 1, 3, 2}
	g := waits.Graph{l, l[:2], l[1:3], l[4:], l[:0]}
	want := told(graph("2 0 1 3 2, 2 0, 0 1, 2, ."))
	if got := told(g); got != want || !slices.Equal(l, []int{2, 0, 1, 3, 2}) {
		t.Errorf("%s, want %s; %v", got, want, l)
	}
}

// Nothing of an answer lies where something of another one, of what was handed in, or of itself does.
func TestTheAnswerIsNewMemory(t *testing.T) { // P12.6
	for _, g := range someGraphs(124, 1500) {
		h := roomy(g)
		// All are held, that none lies where one lay that is gone.
		var answers [][]int
		var parts [][][]int
		for range 2 {
			for from := range h {
				answers = append(answers, waits.Ring(h, from), waits.Reach(h, from))
			}
			sorted, _ := waits.Sorted(h)
			answers = append(answers, sorted)
			parts = append(parts, waits.Parts(h))
		}
		lists := slices.Concat(spans(h), spans(answers), spans(parts))
		slices.SortFunc(lists, func(a, b [2]uintptr) int { return slices.Compare(a[:], b[:]) })
		for i := 1; i < len(lists); i++ {
			if lists[i][0] < lists[i-1][1] {
				t.Fatalf("%v: two lists share their memory", g)
			}
		}
		runtime.KeepAlive(answers)
		runtime.KeepAlive(parts)
	}
}

// Whatever is written over an answer, and behind it, is nothing to the graph and to other answers.
func TestAnswersMayBeWrittenOver(t *testing.T) { // P12.6
	spoil := func(l []int) {
		l = l[:cap(l)]
		for i := range l {
			l[i] = -99
		}
	}
	for _, g := range someGraphs(125, 500) {
		h := roomy(g)
		before, want := laid(h), told(g)
		for from := range h {
			spoil(waits.Ring(h, from))
			spoil(waits.Reach(h, from))
		}
		sorted, _ := waits.Sorted(h)
		spoil(sorted)
		parts := waits.Parts(h)
		for i, part := range parts {
			rest := fmt.Sprint(parts[i+1:])
			spoil(part)
			if got := fmt.Sprint(parts[i+1:]); got != rest {
				t.Fatalf("%v: %s, was %s", g, got, rest)
			}
		}
		clear(parts[:cap(parts)])
		if laid(h) != before || told(h) != want {
			t.Fatalf("%v: an answer is shared", g)
		}
	}
}

// Sizes.

// chain is a graph in which each node points to the next one, or to the one ahead of it, and the last one of the way to to.
func chain(count int, isFalling bool, to ...int) waits.Graph {
	g := make(waits.Graph, count)
	for n := range g {
		switch {
		case isFalling && n > 0:
			g[n] = []int{n - 1}
		case isFalling:
			g[n] = to
		case n < count-1:
			g[n] = []int{n + 1}
		default:
			g[n] = to
		}
	}
	return g
}

func TestLongWays(t *testing.T) { // P12.1 to P12.5
	const long = 400000
	rising := slices.Collect(below(long))
	falling := slices.Clone(rising)
	slices.Reverse(falling)
	for _, isFalling := range []bool{false, true} {
		g, first, order := chain(long, isFalling), 0, rising
		if isFalling {
			first, order = long-1, falling
		}
		if l, ok := waits.Sorted(g); !slices.Equal(l, order) || !ok || !waits.Acyclic(g) {
			t.Errorf("Sorted: %s %v", short(l), ok)
		}
		if l := waits.Reach(g, first); len(l) != long-1 || slices.Contains(l, first) || !slices.IsSorted(l) {
			t.Errorf("Reach: %s", short(l))
		}
		if l := waits.Ring(g, first); len(l) > 0 {
			t.Errorf("Ring: %s", short(l))
		}
		if l := waits.Parts(g); len(l) != long || l[0][0] != 0 || l[long-1][0] != long-1 {
			t.Errorf("%d parts", len(l))
		}
		g = chain(long, isFalling, first)
		if l := waits.Ring(g, first); !slices.Equal(l, order) {
			t.Errorf("Ring: %s", short(l))
		}
		if l := waits.Parts(g); len(l) != 1 || !slices.Equal(l[0], rising) {
			t.Errorf("%d parts", len(l))
		}
		if l, ok := waits.Sorted(g); len(l) > 0 || ok || waits.Acyclic(g) {
			t.Errorf("Sorted: %s %v", short(l), ok)
		}
	}
}

func TestManyPoints(t *testing.T) { // P12.1 to P12.5
	// Each node points to each one that is less, several times.
	const many = 1500
	g := make(waits.Graph, many)
	for n := range g {
		for m := range n {
			g[n] = append(g[n], m, -1, m)
		}
	}
	falling := slices.Collect(below(many))
	slices.Reverse(falling)
	if l, ok := waits.Sorted(g); !slices.Equal(l, falling) || !ok {
		t.Errorf("Sorted: %s %v", short(l), ok)
	}
	if l := waits.Parts(g); len(l) != many {
		t.Errorf("%d parts", len(l))
	}
	if l := waits.Reach(g, many-1); len(l) != many-1 {
		t.Errorf("%d are reached", len(l))
	}
	g[0] = []int{many - 1}
	if l := waits.Ring(g, many-1); !slices.Equal(l, []int{many - 1, 0}) {
		t.Errorf("Ring: %s", short(l))
	}
	if l := waits.Ring(g, 7); !slices.Equal(l, []int{7, 0, many - 1}) {
		t.Errorf("Ring: %s", short(l))
	}
	if l := waits.Parts(g); len(l) != 1 || len(l[0]) != many {
		t.Errorf("%d parts", len(l))
	}
	// One node to which all point, and that points to all.
	const around = 300000
	g = make(waits.Graph, around)
	for n := range around - 1 {
		g[n] = []int{around - 1}
		g[around-1] = append(g[around-1], around-2-n)
	}
	if l := waits.Ring(g, around-1); !slices.Equal(l, []int{around - 1, 0}) {
		t.Errorf("Ring: %s", short(l))
	}
	if l := waits.Ring(g, 5); !slices.Equal(l, []int{5, around - 1}) {
		t.Errorf("Ring: %s", short(l))
	}
	if l := waits.Parts(g); len(l) != 1 || len(l[0]) != around {
		t.Errorf("%d parts", len(l))
	}
}

// As every call: the answers hang on what is handed in alone, whoever asks beside it.
func TestTheSameAgain(t *testing.T) {
	all := someGraphs(126, 300)
	var first []string
	for _, g := range all {
		first = append(first, told(g))
	}
	done := make(chan string)
	for range 4 {
		go func() {
			for i := len(all) - 1; i >= 0; i-- {
				if told(all[i]) != first[i] {
					done <- first[i]
					return
				}
			}
			done <- ""
		}()
	}
	for range 4 {
		if x := <-done; x != "" {
			t.Errorf("another answer than %s", short(x))
		}
	}
}
