package delay_test

import (
	"math"
	"testing"

	"busbar/api"
	"busbar/delay"
	"busbar/wires"
)

// TestNew: P4.1.
func TestNew(t *testing.T) {
	for ticks := range 16 {
		d, code := delay.New(ticks)
		if code != api.OK || d.Ticks() != ticks || d.Last() != 0 {
			t.Error(ticks, code, d.Ticks(), d.Last())
		}
	}
	for _, ticks := range []int{-1, 16, 17, math.MinInt, math.MaxInt} {
		if d, code := delay.New(ticks); code != api.ErrArg || d != nil {
			t.Error(ticks, code)
		}
	}
}

// TestSee: P4.2 and P4.3.
func TestSee(t *testing.T) {
	one, _ := delay.New(1)
	if got := one.See(5); got != 0 {
		t.Error(got)
	}
	if got := one.See(6); got != 5 {
		t.Error(got)
	}
	for ticks := range 16 {
		d, _ := delay.New(ticks)
		for k := range 100 {
			want := wires.Lines(0)
			if k >= ticks {
				want = lines(k - ticks)
			}
			if got := d.See(lines(k)); got != want || d.Last() != k+1 {
				t.Fatal(ticks, k, got, want, d.Last())
			}
		}
	}
}

// lines tells some lines of each tick, unlike those near it.
func lines(k int) wires.Lines { return wires.Lines(k*7%15 + 1) }

// TestClear: P4.2.
func TestClear(t *testing.T) {
	for ticks := range 16 {
		d, _ := delay.New(ticks)
		for k := range 37 {
			d.See(lines(k))
		}
		d.Clear()
		if d.Last() != 0 || d.Ticks() != ticks {
			t.Error(ticks, d.Last(), d.Ticks())
		}
		for k := range 40 {
			want := wires.Lines(0)
			if k >= ticks {
				want = 9
			}
			if got := d.See(9); got != want {
				t.Error(ticks, k, got)
			}
		}
	}
}

// TestNobodyMade: P4.1 and P4.2.
func TestNobodyMade(t *testing.T) {
	for _, d := range []*delay.Delay{nil, {}} {
		for range 3 {
			if d.See(15) != 0 || d.Ticks() != 0 || d.Last() != 0 {
				t.Error(d.Ticks(), d.Last())
			}
			d.Clear()
		}
	}
}
