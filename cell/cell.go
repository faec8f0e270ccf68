// Package cell is layer 1: see shared/doc/01-cell.md.
package cell

import "busbar/api"

// maxCell is the last cell whose looks are told.
const maxCell = 1 << 40

// Level tells how a bit's line stands at a tick of its cell (false, outside).
func Level(bit bool, at int) bool {
	if at < 0 || at >= api.Sub {
		return false
	}
	return (at < api.Half) == bit
}

// Cell tells which cell a tick is in, and which tick of it (of one below 0: -1, 0).
func Cell(tick int) (int, int) {
	if tick < 0 {
		return -1, 0
	}
	return tick / api.Sub, tick % api.Sub
}

// Look tells the tick at which a cell's half is looked at (-1, where there is no such cell).
func Look(cell int, second bool) int {
	if cell < 0 || cell > maxCell {
		return -1
	}
	at := cell*api.Sub + api.Quarter
	if second {
		at += api.Half
	}
	return at
}

// Of tells the bit of two looks, and whether it is one.
func Of(first, second bool) (bool, bool) {
	if first == second {
		return false, false
	}
	return first, true
}

// Wave tells the levels of bits, tick by tick.
func Wave(bits ...bool) []bool {
	levels := make([]bool, 0, len(bits)*api.Sub)
	for _, bit := range bits {
		for at := range api.Sub {
			levels = append(levels, Level(bit, at))
		}
	}
	return levels
}

// Read tells the bits of levels, that are looked at where they should be, moved by some ticks; false, where one is none.
func Read(levels []bool, moved int) ([]bool, bool) {
	cells := len(levels) / api.Sub
	bits := make([]bool, 0, cells)
	for n := range cells {
		first, in := stands(levels, Look(n, false), moved)
		second, too := stands(levels, Look(n, true), moved)
		bit, is := Of(first, second)
		if !in || !too || !is {
			return nil, false
		}
		bits = append(bits, bit)
	}
	return bits, true
}

// stands tells the level at a tick and moved ticks behind it, and whether there is one; the bounds are moved instead of the sum, which could leave an int.
func stands(levels []bool, tick, moved int) (bool, bool) {
	if moved < -tick || moved >= len(levels)-tick {
		return false, false
	}
	return levels[tick+moved], true
}
