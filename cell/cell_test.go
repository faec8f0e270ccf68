package cell_test

import (
	"math"
	"slices"
	"testing"

	"busbar/cell"
)

// TestLevel: P1.1.
func TestLevel(t *testing.T) {
	for at := -3; at < 25; at++ {
		one := at >= 0 && at < 10
		zero := at >= 10 && at < 20
		if got := cell.Level(true, at); got != one {
			t.Errorf("Level(true, %d) = %v", at, got)
		}
		if got := cell.Level(false, at); got != zero {
			t.Errorf("Level(false, %d) = %v", at, got)
		}
	}
	for _, at := range []int{math.MinInt, math.MaxInt} {
		if cell.Level(true, at) || cell.Level(false, at) {
			t.Errorf("Level at %d", at)
		}
	}
}

// TestCell: P1.1.
func TestCell(t *testing.T) {
	for _, c := range []struct{ tick, cell, at int }{
		{0, 0, 0}, {19, 0, 19}, {20, 1, 0}, {45, 2, 5}, {-1, -1, 0}, {-40, -1, 0},
		{math.MinInt, -1, 0}, {math.MaxInt, math.MaxInt / 20, math.MaxInt % 20},
	} {
		if n, at := cell.Cell(c.tick); n != c.cell || at != c.at {
			t.Errorf("Cell(%d) = %d, %d", c.tick, n, at)
		}
	}
}

// TestLook: P1.2.
func TestLook(t *testing.T) {
	for _, c := range []struct {
		cell   int
		second bool
		want   int
	}{
		{0, false, 5}, {0, true, 15}, {1, false, 25}, {1, true, 35}, {-1, false, -1}, {-1, true, -1},
		{1 << 40, false, 20<<40 + 5}, {1 << 40, true, 20<<40 + 15}, {1<<40 + 1, false, -1},
		{math.MaxInt, true, -1}, {math.MinInt, false, -1},
	} {
		if got := cell.Look(c.cell, c.second); got != c.want {
			t.Errorf("Look(%d, %v) = %d", c.cell, c.second, got)
		}
	}
}

// TestOf: P1.2.
func TestOf(t *testing.T) {
	for _, c := range []struct{ first, second, bit, is bool }{
		{true, false, true, true}, {false, true, false, true}, {true, true, false, false}, {false, false, false, false},
	} {
		if bit, is := cell.Of(c.first, c.second); bit != c.bit || is != c.is {
			t.Errorf("Of(%v, %v) = %v, %v", c.first, c.second, bit, is)
		}
	}
}

// TestWave: P1.3.
func TestWave(t *testing.T) {
	if w := cell.Wave(); len(w) != 0 {
		t.Error(w)
	}
	bits := []bool{true, false, false, true}
	w := cell.Wave(bits...)
	if len(w) != 80 {
		t.Fatal(len(w))
	}
	for at, level := range w {
		if level != cell.Level(bits[at/20], at%20) {
			t.Error(at)
		}
	}
	if !slices.Equal(bits, []bool{true, false, false, true}) {
		t.Error("the bits were changed")
	}
}

// TestRead: P1.3.
func TestRead(t *testing.T) {
	for _, short := range []int{0, 1, 19} {
		for _, moved := range []int{0, -100, 100, math.MinInt, math.MaxInt} {
			if b, ok := cell.Read(make([]bool, short), moved); !ok || len(b) != 0 {
				t.Errorf("%d levels, moved %d: %v, %v", short, moved, b, ok)
			}
		}
	}
	w := cell.Wave(true, false, true)
	for _, moved := range []int{-6, 5, math.MinInt, math.MaxInt, -60, 60} {
		if b, ok := cell.Read(w, moved); ok || len(b) != 0 {
			t.Errorf("moved %d: %v, %v", moved, b, ok)
		}
	}
	for _, bit := range []bool{false, true} {
		for _, moved := range []int{-6, 5, -16, 15, -20, 20} {
			if b, ok := cell.Read(cell.Wave(bit), moved); ok || len(b) != 0 {
				t.Errorf("%v moved %d: %v, %v", bit, moved, b, ok)
			}
		}
	}
	long := append(cell.Wave(true), make([]bool, 19)...)
	if b, ok := cell.Read(long, 0); !ok || !slices.Equal(b, []bool{true}) {
		t.Error(b, ok)
	}
	flat := make([]bool, 40)
	if b, ok := cell.Read(flat, 0); ok || len(b) != 0 {
		t.Error(b, ok)
	}
	// A look may lie behind the last whole cell, as long as it lies in the levels.
	late := append(make([]bool, 10), cell.Wave(false)...)
	if b, ok := cell.Read(late, 10); !ok || !slices.Equal(b, []bool{false}) {
		t.Error(b, ok)
	}
}

// TestReadBack: P1.4.
func TestReadBack(t *testing.T) {
	for n := range 64 {
		bits := []bool{}
		for k := range 6 {
			bits = append(bits, n>>k&1 == 1)
		}
		w := cell.Wave(bits...)
		for moved := -5; moved <= 4; moved++ {
			if b, ok := cell.Read(w, moved); !ok || !slices.Equal(b, bits) {
				t.Errorf("%v moved %d: %v, %v", bits, moved, b, ok)
			}
		}
	}
}
