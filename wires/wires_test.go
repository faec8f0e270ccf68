package wires_test

import (
	"math"
	"math/bits"
	"testing"

	"busbar/wires"
)

// none are numbers of no line.
var none = []int{-1, 4, 7, 8, 64, math.MinInt, math.MaxInt}

// TestNumbers: the lines by their numbers.
func TestNumbers(t *testing.T) {
	if wires.Ax != 0 || wires.Bx != 1 || wires.Ay != 2 || wires.By != 3 {
		t.Error(wires.Ax, wires.Bx, wires.Ay, wires.By)
	}
}

// TestDrive: P3.1.
func TestDrive(t *testing.T) {
	if wires.X() != 3 || wires.Y() != 12 || wires.Pulse(false) != 3 || wires.Pulse(true) != 12 {
		t.Error(wires.X(), wires.Y(), wires.Pulse(false), wires.Pulse(true))
	}
	for _, c := range []struct {
		y, level bool
		want     wires.Lines
	}{{false, true, 1}, {false, false, 2}, {true, true, 8}, {true, false, 4}} {
		if got := wires.Drive(c.y, c.level); got != c.want {
			t.Errorf("Drive(%v, %v) = %d", c.y, c.level, got)
		}
	}
	for n := range 256 {
		l := wires.Lines(n)
		if l.Side(false) != l&3 || l.Side(true) != l&12 {
			t.Error(n, l.Side(false), l.Side(true))
		}
	}
}

// TestOr: P3.2.
func TestOr(t *testing.T) {
	if wires.Or() != 0 || wires.Or(5) != 5 || wires.Or(1, 2, 8) != 11 {
		t.Error(wires.Or(), wires.Or(5), wires.Or(1, 2, 8))
	}
	for a := range wires.Lines(16) {
		for b := range wires.Lines(16) {
			if wires.Or(a, b) != a|b {
				t.Error(a, b, wires.Or(a, b))
			}
		}
	}
}

// TestHigh: P3.2.
func TestHigh(t *testing.T) {
	for n := range 256 {
		l := wires.Lines(n)
		if l.Count() != bits.OnesCount(uint(n&15)) {
			t.Error(n, l.Count())
		}
		for line := range 4 {
			if l.High(line) != (n>>line&1 == 1) {
				t.Error(n, line)
			}
		}
		for _, line := range none {
			if l.High(line) {
				t.Error(n, line)
			}
		}
	}
}

// TestSays: P3.2.
func TestSays(t *testing.T) {
	for n := range 256 {
		l := wires.Lines(n)
		want := [4]bool{n&1 != 0, n&2 == 0, n&4 == 0, n&8 != 0}
		if got := l.Says(); got != want {
			t.Error(n, got)
		}
	}
}

// TestSet: P3.2.
func TestSet(t *testing.T) {
	for l := range wires.Lines(16) {
		for line := range 4 {
			if got := l.Set(line, true); got != l|1<<line {
				t.Error(l, line, got)
			}
			if got := l.Set(line, false); got != l&^(1<<line) {
				t.Error(l, line, got)
			}
		}
		for _, line := range none {
			if l.Set(line, true) != l || l.Set(line, false) != l {
				t.Error(l, line)
			}
		}
	}
}

// TestBoth: P3.3.
func TestBoth(t *testing.T) {
	for _, level := range []bool{false, true} {
		l := wires.Or(wires.Drive(false, level), wires.Drive(true, level))
		if l.Says() != [4]bool{level, level, level, level} || l.Count() != 2 || l.Side(false).Count() != 1 {
			t.Error(level, l)
		}
	}
	for a := range wires.Lines(16) {
		for b := range wires.Lines(16) {
			for line := range 4 {
				if wires.Or(a, b).High(line) != (a.High(line) || b.High(line)) {
					t.Error(a, b, line)
				}
			}
		}
	}
}

// TestText: P3.4.
func TestText(t *testing.T) {
	for line, want := range []string{"ax", "bx", "ay", "by"} {
		if got := wires.Name(line); got != want {
			t.Error(line, got)
		}
	}
	for _, line := range none {
		if got := wires.Name(line); got != "" {
			t.Error(line, got)
		}
	}
	for l, want := range map[wires.Lines]string{0: "....", 1: "#...", 2: ".#..", 4: "..#.", 8: "...#", 9: "#..#", 15: "####", 0xf0: "....", 0xf6: ".##."} {
		if got := l.Text(); got != want {
			t.Error(l, got)
		}
	}
}
