package pieces_test

import (
	"slices"

	"interlock/api"
	"interlock/code"
	"interlock/pieces"
)

// What the chapter says, read a second time and by other means than the package's own, for the tests to hold the package
// against.

// numberAs is the number of the unit of the instruction at that place: as many as there are Pieces ahead of it.
func numberAs(l []code.Instr, way uint8, at int) int {
	if at < 0 || at >= len(l) {
		return -1
	}
	number := 0
	for _, x := range l[:at] {
		if way == api.Pieces && x.Op == code.Piece {
			number++
		}
	}
	return number
}

// unitsAs are the units: the runs of instructions that have one number.
func unitsAs(l []code.Instr, way uint8) []pieces.Unit {
	var all []pieces.Unit
	for at := range l {
		if numberAs(l, way, at) == len(all) {
			all = append(all, pieces.Unit{From: at})
		}
		all[len(all)-1].To = at + 1
	}
	return all
}

// withoutAs are the instructions without the named Pieces, which are taken away one by one, the last one first.
func withoutAs(l []code.Instr, drop ...int) []code.Instr {
	l = cloneRow(l)
	for at := len(l) - 1; at >= 0; at-- {
		if l[at].Op != code.Piece || !slices.Contains(drop, numberAs(l, api.Pieces, at)) {
			continue
		}
		l = slices.Delete(l, at, at+1)
		for i := range l {
			if l[i].To > at {
				l[i].To--
			}
		}
	}
	return l
}

// countAs tells how many Pieces there are.
func countAs(l []code.Instr) int {
	count := 0
	for _, x := range l {
		if x.Op == code.Piece {
			count++
		}
	}
	return count
}
