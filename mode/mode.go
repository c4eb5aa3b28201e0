// Package mode is layer 1: see shared/doc/01-mode.md.
package mode

import "interlock/api"

// besideTable is the chapter's table, row by row: its columns are None, IS, IX, S, SIX and X.
var besideTable = [6][6]bool{
	api.None: {true, true, true, true, true, true},
	api.IS:   {true, true, true, true, true, false},
	api.IX:   {true, true, true, false, false, false},
	api.S:    {true, true, false, true, false, false},
	api.SIX:  {true, true, false, false, false, false},
	api.X:    {true, false, false, false, false, false},
}

// Known: P1.1.
func Known(m api.Mode) bool { return m <= api.X }

// orNone: a mode that is none is taken for None, by every call but Known.
func orNone(m api.Mode) api.Mode {
	if Known(m) {
		return m
	}
	return api.None
}

// Covers: P1.2.
func Covers(a, b api.Mode) bool {
	a, b = orNone(a), orNone(b)
	switch a {
	case api.X:
		if b == api.X {
			return true
		}
		fallthrough
	case api.SIX:
		if b == api.SIX || b == api.IX || b == api.S {
			return true
		}
		fallthrough
	case api.IX, api.S:
		// Neither of the two is above the other, so each is held against itself alone; for the greater ones both have been asked already.
		if b == a {
			return true
		}
		fallthrough
	case api.IS:
		if b == api.IS {
			return true
		}
		fallthrough
	default:
		return b == api.None
	}
}

// Join: P1.3.
func Join(a ...api.Mode) api.Mode {
	least := api.None
	for _, m := range a {
		least = joinTwo(least, m)
	}
	return least
}

// joinTwo goes upwards by the modes' numbers: no mode has a smaller number than one that it covers, so the first that covers both is the least.
func joinTwo(a, b api.Mode) api.Mode {
	for m := api.None; m < api.X; m++ {
		if Covers(m, a) && Covers(m, b) {
			return m
		}
	}
	return api.X
}

// Meet: P1.3. It goes downwards, for the reason that joinTwo goes upwards.
func Meet(a, b api.Mode) api.Mode {
	for m := api.X; m > api.None; m-- {
		if Covers(a, m) && Covers(b, m) {
			return m
		}
	}
	return api.None
}

// Beside: P1.4.
func Beside(a, b api.Mode) bool { return besideTable[orNone(a)][orNone(b)] }

// Ahead: P1.5.
func Ahead(row api.Mode) api.Mode {
	switch row {
	case api.IS, api.S:
		return api.IS
	case api.IX, api.SIX, api.X:
		return api.IX
	}
	return api.None
}

// Row: P1.6.
func Row(table api.Mode) api.Mode {
	switch table {
	case api.S, api.SIX:
		return api.S
	case api.X:
		return api.X
	}
	return api.None
}

// Text: P1.7.
func Text(m api.Mode) string {
	switch m {
	case api.IS:
		return "IS"
	case api.IX:
		return "IX"
	case api.S:
		return "S"
	case api.SIX:
		return "SIX"
	case api.X:
		return "X"
	}
	return ""
}
