package diag_test

import (
	"math"
	"testing"

	"busbar/api"
	"busbar/budget"
	"busbar/diag"
	"busbar/fault"
	"busbar/plan"
	"busbar/plane"
	"busbar/probe"
	"busbar/replay"
)

// TestOf: P40.1.
func TestOf(t *testing.T) {
	l := []probe.Message{
		{Words: []byte{1, 2}, Known: true, Odd: [4]int{1, 2, 3, 4}}, {Words: []byte{1, 2}, Odd: [4]int{9, 9, 9, 9}}, {Words: []byte{1}, Known: true, Vetoed: true, Odd: [4]int{10, 0, 0, 5}}, {Known: false},
	}
	if got := diag.Of(l); got != (diag.Count{Bits: 24, Odd: [4]int{11, 2, 3, 9}}) {
		t.Error(got)
	}
	if got := diag.Of(nil); got != (diag.Count{}) {
		t.Error(got)
	}
	a, b := diag.Count{1, [4]int{2, 3, 4, 5}}, diag.Count{10, [4]int{20, 30, 40, 50}}
	if got := a.Sum(b); got != (diag.Count{11, [4]int{22, 33, 44, 55}}) || b.Sum(a) != got {
		t.Error(got)
	}
}

// TestSuspect: P40.2.
func TestSuspect(t *testing.T) {
	for _, c := range []struct {
		odd            [4]int
		suspect, worst int
	}{
		{[4]int{}, -1, -1}, {[4]int{0, 0, 3, 0}, 2, 2}, {[4]int{8, 0, 0, 0}, 0, 0}, {[4]int{0, 0, 0, 1}, 3, 3}, {[4]int{1, 0, 0, 2}, -1, 3}, {[4]int{2, 2, 0, 1}, -1, 0}, {[4]int{1, 5, 5, 5}, -1, 1}, {[4]int{-1, math.MinInt, -5, -9}, -1, -1}, {[4]int{-1, 7, -5, 0}, 1, 1}, {[4]int{math.MaxInt, 1, 0, 0}, -1, 0},
	} {
		n := diag.Count{Bits: 5, Odd: c.odd}
		if n.Suspect() != c.suspect || n.Worst() != c.worst || n.Clean() != (c.worst < 0) {
			t.Error(c, n.Suspect(), n.Worst(), n.Clean())
		}
	}
}

// TestShare: P40.3.
func TestShare(t *testing.T) {
	for _, c := range [][3]int{
		{8, 8, 1000}, {1, 1, 1000}, {8, 0, 0}, {8, 1, 125}, {3, 1, 333}, {3, 2, 666}, {1001, 1, 0}, {0, 5, 0}, {-8, 5, 0}, {math.MinInt, 5, 0}, {8, -5, 0}, {8, math.MinInt, 0}, {8, 9, 1000}, {8, math.MaxInt, 1000}, {1 << 40, 1 << 39, 500}, {math.MaxInt, 1 << 39, 500}, {1 << 41, 1 << 40, 1000}, {1 << 41, 1 << 41, 1000}, {math.MaxInt, math.MaxInt, 1000},
	} {
		for line := range 4 {
			n := diag.Count{Bits: c[0]}
			n.Odd[line] = c[1]
			if got := n.Share(line); got != c[2] {
				t.Error(c, line, got)
			}
		}
	}
	for _, line := range []int{-1, 4, math.MinInt, math.MaxInt} {
		if got := (diag.Count{8, [4]int{8, 8, 8, 8}}).Share(line); got != 0 {
			t.Error(line, got)
		}
	}
}

// TestText: P40.3.
func TestText(t *testing.T) {
	if got := (diag.Count{24, [4]int{11, -2, 3, 0}}).Text(); got != "bits 24 ax 11 bx 0 ay 3 by 0" {
		t.Error(got)
	}
	if got := (diag.Count{Bits: -1}).Text(); got != "bits 0 ax 0 bx 0 ay 0 by 0" {
		t.Error(got)
	}
}

// TestStill: P40.4.
func TestStill(t *testing.T) {
	s := plan.Schedule{Modules: 3, Frames: [2][]plan.Window{{{Kind: plan.Data, Words: 2, From: []int{0, 1}, To: []int{2}}}}}
	run := func(f fault.Fault) diag.Count {
		p, code := plane.New(plane.Setup{Schedule: s, Course: budget.Course{Fault: f}, Skew: 0b011001, On: 7})
		if code != api.OK {
			t.Fatal(code)
		}
		p.Pair(0).Memory().Write(0, []byte{0xa5, 0x0f})
		w, _ := replay.Record(p, 4*plan.Frame(s, 0))
		return diag.Of(probe.Read(s, w))
	}
	if c := run(fault.Fault{}); !c.Clean() || c.Bits == 0 || c.Suspect() != -1 {
		t.Error(c)
	}
	for line := range 4 {
		for _, level := range []byte{0, 1} {
			c := run(fault.Fault{Kind: fault.Line, Line: line, Pattern: []byte{level}})
			if c.Suspect() != line || c.Share(line) != 1000 || c.Worst() != line || c.Clean() {
				t.Error(line, level, c)
			}
		}
	}
}
