package bus_test

import (
	"math"
	"slices"
	"testing"

	"busbar/bus"
	"busbar/fault"
	"busbar/wires"
)

// TestNew: P24.1.
func TestNew(t *testing.T) {
	for _, c := range [][2]int{{0, 0}, {-1, 0}, {math.MinInt, 0}, {2, 2}, {16, 16}, {17, 16}, {math.MaxInt, 16}} {
		b := bus.New(c[0])
		if b.Lines() != 0 || b.Drivers() != 0 || len(b.Talkers()) != 0 {
			t.Error(c)
		}
		for m := -2; m < 20; m++ {
			b.Put(m, 1)
		}
		b.Settle(fault.Fault{}, 0)
		if b.Drivers() != c[1] || len(b.Talkers()) != c[1] {
			t.Error(c, b.Drivers())
		}
	}
}

// TestPut: P24.2 and P24.3.
func TestPut(t *testing.T) {
	b := bus.New(3)
	b.Put(0, 1)
	b.Put(1, 8)
	if b.Lines() != 0 || b.Drove(0) != 0 || b.Drivers() != 0 {
		t.Error("ahead of Settle")
	}
	if got := b.Settle(fault.Fault{}, 0); got != 9 || b.Lines() != 9 || b.Drivers() != 2 || !slices.Equal(b.Talkers(), []int{0, 1}) || b.Drove(0) != 1 || b.Drove(1) != 8 || b.Drove(2) != 0 {
		t.Error(got, b.Lines(), b.Drivers(), b.Talkers())
	}
	b.Put(2, 1)
	b.Put(2, 4)
	b.Put(2, 0)
	if b.Lines() != 9 || b.Drove(0) != 1 {
		t.Error(b.Lines())
	}
	if got := b.Settle(fault.Fault{}, 1); got != 5 || b.Drove(2) != 5 || b.Drove(0) != 0 || b.Drivers() != 1 || !slices.Equal(b.Talkers(), []int{2}) {
		t.Error(got, b.Drove(2), b.Talkers())
	}
	if got := b.Settle(fault.Fault{}, 2); got != 0 || b.Drivers() != 0 || len(b.Talkers()) != 0 {
		t.Error(got)
	}
	for _, m := range []int{-1, 3, math.MinInt, math.MaxInt} {
		b.Put(m, 15)
		if b.Drove(m) != 0 || b.Settle(fault.Fault{}, 3) != 0 {
			t.Error(m)
		}
	}
}

// TestTalkers: P24.3, of all that one may drive.
func TestTalkers(t *testing.T) {
	for l := range wires.Lines(16) {
		b := bus.New(4)
		b.Put(2, l)
		b.Settle(fault.Fault{}, 0)
		talks := l != 0 && l&3 != 3 && l&12 != 12
		if got := slices.Contains(b.Talkers(), 2); got != talks || len(b.Talkers()) > 1 {
			t.Error(l, b.Talkers())
		}
		if (b.Drivers() == 1) != (l != 0) {
			t.Error(l, b.Drivers())
		}
	}
}

// TestNobodyMade: P24.2.
func TestNobodyMade(t *testing.T) {
	for _, b := range []*bus.Bus{nil, {}} {
		b.Put(0, 15)
		high := fault.Fault{Kind: fault.Line, Pattern: []byte{1}}
		if b.Settle(high, 0) != 0 || b.Lines() != 0 || b.Drove(0) != 0 || b.Drivers() != 0 || len(b.Talkers()) != 0 {
			t.Error("of none")
		}
	}
}

// TestFault: P24.2 and P24.4.
func TestFault(t *testing.T) {
	for line := range 4 {
		for pattern := range byte(4) {
			f := fault.Fault{Kind: fault.Line, Line: line, From: 10, Pattern: []byte{pattern}}
			for x := range wires.Lines(16) {
				for y := range wires.Lines(16) {
					b := bus.New(2)
					for _, tick := range []int{9, 10} {
						b.Put(0, x)
						b.Put(1, y)
						want := f.Lines(x|y, tick)
						if got := b.Settle(f, tick); got != want || b.Lines() != want || b.Drove(0) != x || b.Drove(1) != y {
							t.Fatal(line, pattern, x, y, tick, got)
						}
						for n := range 4 {
							if n != line && b.Lines().High(n) != (x.High(n) || y.High(n)) {
								t.Fatal(line, x, y, n)
							}
						}
					}
				}
			}
		}
	}
	// A fault of a side does not change how lines stand.
	b := bus.New(2)
	b.Put(0, 6)
	if got := b.Settle(fault.Fault{Kind: fault.Side, Pattern: []byte{7}}, 5); got != 6 {
		t.Error(got)
	}
}
