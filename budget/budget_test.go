package budget_test

import (
	"bytes"
	"math"
	"slices"
	"testing"

	"busbar/api"
	"busbar/budget"
	"busbar/fault"
)

var side = fault.Fault{Kind: fault.Side, Module: 1, Pattern: []byte{7}}

func course(l ...budget.Slip) budget.Course { return budget.Course{Slips: l} }

// TestCheck: P21.1.
func TestCheck(t *testing.T) {
	fine := budget.Slip{Tick: 5000, By: 1}
	for n, c := range []struct {
		c    budget.Course
		want api.Errno
	}{
		{budget.Course{}, api.OK}, {budget.Course{Fault: side}, api.OK}, {budget.Course{Fault: fault.Fault{Kind: fault.Side, Module: 4, Pattern: []byte{1}}, Slips: []budget.Slip{{By: 9}}}, api.ErrArg},
		{course(fine), api.OK}, {course(budget.Slip{Module: 4, By: 1}), api.ErrArg}, {course(budget.Slip{Module: -1, By: 1}), api.ErrArg}, {course(budget.Slip{Tick: -1, By: 1}), api.ErrArg},
		{course(budget.Slip{Tick: 1 << 40, By: -1}), api.OK}, {course(budget.Slip{Tick: 1<<40 + 1, By: 1}), api.ErrArg}, {course(budget.Slip{By: 0}), api.ErrArg}, {course(budget.Slip{By: 2}), api.ErrArg}, {course(budget.Slip{By: math.MinInt}), api.ErrArg},
		{course(fine, budget.Slip{Tick: 9399, By: 1}), api.ErrOver}, {course(fine, budget.Slip{Tick: 9400, By: 1}), api.OK}, {course(fine, budget.Slip{Tick: 601, By: -1}), api.ErrOver}, {course(fine, budget.Slip{Tick: 600, By: -1}), api.OK}, {course(fine, fine), api.ErrOver},
		{course(fine, budget.Slip{Tick: 5000, Y: true, By: 1}), api.OK}, {course(fine, budget.Slip{Tick: 5000, Module: 1, By: 1}), api.OK},
		{course(fine, budget.Slip{Tick: 20000, By: 1}, budget.Slip{Tick: 5001, By: 1}), api.ErrOver}, {course(fine, budget.Slip{Tick: 20000, By: 1}, budget.Slip{Tick: 15601, By: 1}, budget.Slip{By: 9}), api.ErrOver},
		{course(fine, budget.Slip{By: 9}, budget.Slip{Tick: 5001, By: 1}), api.ErrArg}, {course(fine, budget.Slip{Tick: 5001, By: 2}), api.ErrArg},
		{course(budget.Slip{Tick: math.MaxInt, By: 1}), api.ErrArg}, {course(budget.Slip{Tick: math.MinInt, By: 1}), api.ErrArg}, {course(budget.Slip{Module: math.MaxInt, By: 1}), api.ErrArg},
		{course(budget.Slip{Tick: 4399, By: 1}, budget.Slip{Tick: 0, By: 1}), api.ErrOver}, {course(budget.Slip{Tick: 0, By: 1}, budget.Slip{Tick: 4399, By: 1}), api.ErrOver}, {course(budget.Slip{Tick: 0, By: 1}, budget.Slip{Tick: 4400, By: 1}), api.OK},
	} {
		if got := c.c.Check(4); got != c.want {
			t.Error(n, got)
		}
	}
	if got := course(fine).Check(0); got != api.ErrArg {
		t.Error(got)
	}
}

// TestAt: P21.2.
func TestAt(t *testing.T) {
	c := course(budget.Slip{Tick: 7, By: 1}, budget.Slip{Tick: 7, By: 1}, budget.Slip{Tick: 7, Y: true, By: -1}, budget.Slip{Module: 3, Tick: 9, By: -5}, budget.Slip{Module: 3, Tick: 9, By: 5},
		budget.Slip{Module: 2, Tick: -4, By: math.MaxInt}, budget.Slip{Module: 2, Tick: -4, By: math.MaxInt}, budget.Slip{Module: 2, Tick: -4, By: math.MinInt}, budget.Slip{Module: 2, Tick: -4, By: math.MinInt},
		budget.Slip{Module: 4, Tick: 1, By: math.MaxInt}, budget.Slip{Module: 4, Tick: 1, By: math.MinInt}, budget.Slip{Module: 4, Tick: 1, By: 1},
		budget.Slip{Module: 5, Tick: 1, By: math.MaxInt}, budget.Slip{Module: 5, Tick: 1, By: 1},
		budget.Slip{Module: 6, Tick: 1, By: 1}, budget.Slip{Module: 6, Tick: 2, By: 1 << 32}, budget.Slip{Module: 6, Tick: 3, By: -1 << 32}, budget.Slip{Module: 6, Tick: 4, By: 1 << 32}, budget.Slip{Module: 6, Tick: 4, By: -1 << 32})
	for _, w := range []struct {
		module int
		y      bool
		tick   int
		want   int
	}{
		{0, false, 7, 1}, {0, true, 7, -1}, {0, false, 8, 0}, {1, false, 7, 0}, {3, false, 9, 0}, {3, true, 9, 0}, {2, false, -4, -1}, {4, false, 1, 0}, {5, false, 1, 1}, {6, false, 1, 1}, {6, false, 2, 1}, {6, false, 3, -1}, {6, false, 4, 0}, {math.MaxInt, false, math.MinInt, 0},
	} {
		if got := c.At(w.module, w.y, w.tick); got != w.want {
			t.Error(w, got)
		}
	}
}

// TestClone: P21.3.
func TestClone(t *testing.T) {
	c := course(budget.Slip{Tick: 7, By: 1})
	c.Fault = fault.Fault{Kind: fault.Line, Line: 2, Pattern: []byte{5}}
	o := c.Clone()
	if !alike(c, o) {
		t.Error(o)
	}
	o.Slips[0].Tick = 9
	o.Fault.Pattern[0] = 9
	if c.Slips[0].Tick != 7 || c.Fault.Pattern[0] != 5 {
		t.Error(c)
	}
}

// alike tells whether two courses are.
func alike(a, b budget.Course) bool {
	f, g := a.Fault, b.Fault
	return f.Kind == g.Kind && f.Module == g.Module && f.Y == g.Y && f.Line == g.Line && f.From == g.From && bytes.Equal(f.Pattern, g.Pattern) && slices.Equal(a.Slips, b.Slips)
}

// TestHealthy: P21.3.
func TestHealthy(t *testing.T) {
	c := budget.Course{Fault: side}
	if c.Healthy(1) || !c.Healthy(0) || !c.Healthy(-1) || !(budget.Course{Fault: fault.Fault{Kind: fault.Line, Module: 1}}).Healthy(1) || !(budget.Course{}).Healthy(0) {
		t.Error("healthy")
	}
}

// TestFit: P21.3.
func TestFit(t *testing.T) {
	bad := side
	bad.Module = 9
	c := budget.Course{Fault: bad, Slips: []budget.Slip{
		{Tick: 5000, By: 1}, {Tick: 5001, By: 1}, {Tick: 9399, By: 1}, {By: 3}, {Tick: 9401, By: -1}, {Module: 7, By: 1}, {Tick: 600, By: 1}, {Tick: 601, By: 1}, {Tick: 601, Y: true, By: 1}, {Tick: 5000, Module: 3, By: -1},
	}}
	want := course(budget.Slip{Tick: 5000, By: 1}, budget.Slip{Tick: 9401, By: -1}, budget.Slip{Tick: 600, By: 1}, budget.Slip{Tick: 601, Y: true, By: 1}, budget.Slip{Tick: 5000, Module: 3, By: -1})
	if got := c.Fit(4); !alike(got, want) {
		t.Error(got)
	}
	c.Fault = side
	got := c.Fit(4)
	if got.Fault.Kind != fault.Side {
		t.Error(got)
	}
	got.Fault.Pattern[0] = 99
	got.Slips[0].Tick = 99
	if side.Pattern[0] != 7 || c.Slips[0].Tick != 5000 {
		t.Error("what was handed in was changed")
	}
}

// TestFitMayBe: P21.4, of slips of all sorts.
func TestFitMayBe(t *testing.T) {
	x := uint32(3)
	next := func(most int) int {
		x = x*1664525 + 1013904223
		return int(x>>8) % most
	}
	for range 300 {
		var c budget.Course
		if next(2) == 0 {
			c.Fault = fault.Fault{Kind: next(4), Module: next(4), Line: next(6), From: next(3) - 1, Pattern: make([]byte, next(3))}
		}
		for range next(40) {
			c.Slips = append(c.Slips, budget.Slip{Module: next(4) - 1, Y: next(2) == 0, Tick: next(60000) - 100, By: next(4) - 1})
		}
		fit := c.Fit(2)
		if code := fit.Check(2); code != api.OK {
			t.Fatal(c, fit, code)
		}
		if again := fit.Fit(2); !alike(again, fit) {
			t.Fatal(fit, again)
		}
		if c.Check(2) == api.OK && !alike(c, fit) {
			t.Fatal(c, fit)
		}
		// each slip that was left away may not be, or is too near to one that was taken
		taken := fit.Slips
		for n, s := range c.Slips {
			if len(taken) > 0 && s == taken[0] {
				taken = taken[1:]
				continue
			}
			with := course(append(slices.Clone(fit.Slips[:len(fit.Slips)-len(taken)]), s)...)
			if with.Check(2) == api.OK {
				t.Fatal(c, n)
			}
		}
	}
}
