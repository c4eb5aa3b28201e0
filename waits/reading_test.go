package waits_test

import (
	"slices"

	"interlock/waits"
)

// What the chapter says, read a second time and by other means than the package's own, for the tests to hold the package
// against: tables of who points to whom, and all rings one by one.

// pointsAs tells of each two nodes whether the first one points to the second one.
func pointsAs(g waits.Graph) [][]bool {
	points := make([][]bool, len(g))
	for a, list := range g {
		points[a] = make([]bool, len(g))
		for b := range g {
			points[a][b] = slices.Contains(list, b)
		}
	}
	return points
}

// waysAs tells of each two nodes whether a way of at least one step goes from the first one to the second one.
func waysAs(g waits.Graph) [][]bool {
	ways := pointsAs(g)
	for over := range g {
		for a := range g {
			for b := range g {
				if ways[a][over] && ways[over][b] {
					ways[a][b] = true
				}
			}
		}
	}
	return ways
}

// ringsAs are all rings that begin at a node: each way in which no node stands twice is gone, and is one if it can go back.
func ringsAs(g waits.Graph, from int) [][]int {
	if from < 0 || from >= len(g) {
		return nil
	}
	points := pointsAs(g)
	var all [][]int
	var walk func(way []int)
	walk = func(way []int) {
		for n, isNext := range points[way[len(way)-1]] {
			if isNext && n == from {
				all = append(all, slices.Clone(way))
			} else if isNext && !slices.Contains(way, n) {
				walk(append(slices.Clone(way), n))
			}
		}
	}
	walk([]int{from})
	return all
}

// ringAs is the ring that is asked for: the first one of all.
func ringAs(g waits.Graph, from int) []int {
	all := ringsAs(g, from)
	if len(all) == 0 {
		return nil
	}
	return slices.MinFunc(all, func(a, b []int) int {
		if len(a) != len(b) {
			return len(a) - len(b)
		}
		return slices.Compare(a, b)
	})
}

// ringBySteps is the ring that is asked for, of graphs that have too many of them to go through all: it is told by who can
// be at from in so many steps.
func ringBySteps(g waits.Graph, from int) []int {
	if from < 0 || from >= len(g) {
		return nil
	}
	points := pointsAs(g)
	can := [][]bool{make([]bool, len(g))}
	can[0][from] = true
	for steps := 1; steps <= len(g); steps++ {
		now := make([]bool, len(g))
		for a := range g {
			for b := range g {
				now[a] = now[a] || points[a][b] && can[steps-1][b]
			}
		}
		can = append(can, now)
		if now[from] {
			break
		}
	}
	steps := len(can) - 1
	if steps == 0 || !can[steps][from] {
		return nil
	}
	ring := []int{from}
	for left := steps - 1; left > 0; left-- {
		for b := range g {
			if points[ring[len(ring)-1]][b] && can[left][b] {
				ring = append(ring, b)
				break
			}
		}
	}
	return ring
}

func acyclicAs(g waits.Graph) bool {
	for n, to := range waysAs(g) {
		if to[n] {
			return false
		}
	}
	return true
}

func partsAs(g waits.Graph) [][]int {
	ways := waysAs(g)
	var parts [][]int
	for a := range g {
		var part []int
		for b := range g {
			if a == b || ways[a][b] && ways[b][a] {
				part = append(part, b)
			}
		}
		if part[0] == a {
			parts = append(parts, part)
		}
	}
	return parts
}

func reachAs(g waits.Graph, from int) []int {
	if from < 0 || from >= len(g) {
		return nil
	}
	var all []int
	for n, isReached := range waysAs(g)[from] {
		if isReached {
			all = append(all, n)
		}
	}
	return all
}

// sortedAs looks, for each place anew, for the least node that can be next.
func sortedAs(g waits.Graph) ([]int, bool) {
	points := pointsAs(g)
	var all []int
	for len(all) < len(g) {
		next := 0
		for next < len(g) && !canBeNextAs(points, all, next) {
			next++
		}
		if next == len(g) {
			return nil, false
		}
		all = append(all, next)
	}
	return all, true
}

// canBeNextAs tells whether a node is not told, and nobody points to it who is not.
func canBeNextAs(points [][]bool, told []int, n int) bool {
	for a := range points {
		if points[a][n] && !slices.Contains(told, a) {
			return false
		}
	}
	return !slices.Contains(told, n)
}
