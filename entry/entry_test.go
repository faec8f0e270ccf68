package entry_test

import (
	"math"
	"math/rand"
	"testing"

	"busbar/api"
	"busbar/biu"
	"busbar/budget"
	"busbar/entry"
	"busbar/fault"
	"busbar/plan"
	"busbar/plane"
)

func data(words, addr int, from, to []int) plan.Window {
	return plan.Window{Kind: plan.Data, Words: words, Addr: addr, From: from, To: to}
}

// setup is a plane of four modules, of which the first one is on, and the last one has no table.
func setup() plane.Setup {
	return plane.Setup{Schedule: plan.Schedule{Modules: 4, Frames: [2][]plan.Window{{data(1, 5, []int{0}, []int{1})}}}, On: 1, Spoilt: 8}
}

func made(t *testing.T, s plane.Setup) *plane.Plane {
	t.Helper()
	p, code := plane.New(s)
	if code != api.OK {
		t.Fatal(code)
	}
	return p
}

// TestBound: P32.1.
func TestBound(t *testing.T) {
	s := plan.Schedule{Modules: 2, Frames: [2][]plan.Window{{{Kind: plan.Gap, Bits: 24}}, {{Kind: plan.Gap, Bits: 24}}}}
	if got := entry.Bound(s); got != 2080 {
		t.Error(got)
	}
	s.Frames[0] = append(s.Frames[0], plan.Window{Kind: plan.Short})
	if got := entry.Bound(s); got != 2*920+400 {
		t.Error(got)
	}
	if got := entry.Bound(plan.Schedule{Modules: 2}); got != 1120 {
		t.Error(got)
	}
	s.Frames[1][0].Bits = 0
	if entry.Bound(s) != 0 || entry.Bound(plan.Schedule{}) != 0 {
		t.Error(entry.Bound(s))
	}
}

// TestWait: P32.2.
func TestWait(t *testing.T) {
	p := made(t, setup())
	if n, ok := entry.Wait(p, 0, 100); n != 0 || !ok || p.Tick() != 0 {
		t.Error(n, ok, p.Tick())
	}
	if n, ok := entry.Wait(p, 1, 50); n != 50 || ok || p.Tick() != 50 {
		t.Error(n, ok, p.Tick())
	}
	for _, most := range []int{0, -1, math.MinInt} {
		if n, ok := entry.Wait(p, 1, most); n != 0 || ok || p.Tick() != 50 {
			t.Error(most, n, ok)
		}
	}
	for _, module := range []int{-1, 4, math.MinInt, math.MaxInt} {
		if n, ok := entry.Wait(p, module, 10); n != 0 || ok || p.Tick() != 50 {
			t.Error(module, n, ok)
		}
	}
	for _, none := range []*plane.Plane{nil, {}} {
		if n, ok := entry.Wait(none, 0, 10); n != 0 || ok {
			t.Error(n, ok)
		}
	}
	if n, ok := entry.Wait(p, 3, 10); n != 10 || ok || p.Tick() != 60 {
		t.Error(n, ok, p.Tick())
	}
	// It hears the long pulse of the second frame, and is set by that of the third one, which begins at 1360.
	p.Run(200)
	p.Pair(1).Power(true)
	n, ok := entry.Wait(p, 1, math.MaxInt)
	if !ok || p.Tick() != 1360+61 || n != 1360+61-260 || !p.Pair(1).InSync() {
		t.Error(n, ok, p.Tick())
	}
}

// TestMost: P32.2.
func TestMost(t *testing.T) {
	p := made(t, plane.Setup{Schedule: plan.Schedule{Modules: 2}})
	if n, ok := entry.Wait(p, 0, math.MaxInt); n != api.MaxTicks || ok || p.Tick() != api.MaxTicks {
		t.Error(n, ok, p.Tick())
	}
}

// TestOn: P32.3.
func TestOn(t *testing.T) {
	for _, none := range []*plane.Plane{nil, {}} {
		if n, code := entry.On(none, -1, 10); n != 0 || code != api.ErrNil {
			t.Error(n, code)
		}
	}
	p := made(t, setup())
	for module, want := range map[int]api.Errno{-1: api.ErrArg, 4: api.ErrArg, math.MaxInt: api.ErrArg, 3: api.ErrNone, 0: api.ErrState} {
		if n, code := entry.On(p, module, 10); n != 0 || code != want || p.Tick() != 0 {
			t.Error(module, n, code)
		}
	}
	for _, y := range []bool{false, true} {
		p.Pair(1).Unit(y).Power(true)
		if n, code := entry.On(p, 1, 10); n != 0 || code != api.ErrState || p.Pair(1).Unit(!y).State() != biu.Off {
			t.Error(y, n, code)
		}
		p.Pair(1).Power(false)
	}
	if n, code := entry.On(p, 1, 30); n != 30 || code != api.ErrFar || p.Tick() != 30 || p.Pair(1).Unit(false).State() != biu.Listen {
		t.Error(n, code, p.Tick())
	}
	if n, code := entry.On(p, 2, 2000); code != api.OK || n != 680+61-30 || p.Tick() != 741 || !p.Pair(2).InSync() {
		t.Error(n, code, p.Tick())
	}
}

// TestSame: P32.4.
func TestSame(t *testing.T) {
	s := setup()
	s.On, s.Spoilt = 15, 0
	s.Course.Slips = []budget.Slip{{Module: 1, Tick: 5, By: 1}, {Module: 1, Y: true, Tick: 5, By: 1}, {Module: 2, Tick: 5, By: -1}}
	p := made(t, s)
	p.Run(20)
	for _, c := range []struct {
		a, b, apart int
		want        bool
	}{
		{0, 3, 0, true}, {0, 0, 0, true}, {0, 0, -1, false}, {0, 1, 0, false}, {0, 1, 1, true}, {1, 0, 1, true}, {0, 2, 0, false}, {2, 0, 0, false}, {2, 0, 1, true}, {1, 2, 1, false}, {1, 2, 2, true}, {1, 2, math.MaxInt, true}, {1, 2, math.MinInt, false},
		{0, 4, 9, false}, {-1, 0, 9, false}, {4, 4, 9, false},
	} {
		if got := entry.Same(p, c.a, c.b, c.apart); got != c.want {
			t.Error(c, got)
		}
	}
	// Through the end of a frame the shorter way counts.
	s.Course.Slips = []budget.Slip{{Module: 1, Tick: 500, By: 1}}
	q := made(t, s)
	q.Run(679)
	if !entry.Same(q, 0, 1, 1) || !entry.Same(q, 1, 0, 1) || entry.Same(q, 0, 1, 0) {
		t.Error("through the end")
	}
	p.Pair(3).Unit(true).Power(false)
	if entry.Same(p, 0, 3, 9) || entry.Same(p, 3, 0, 9) {
		t.Error("not in sync")
	}
	p.Pair(3).Join(1)
	if entry.Same(p, 0, 3, 1<<30) {
		t.Error("another version")
	}
	for _, none := range []*plane.Plane{nil, {}} {
		if entry.Same(none, 0, 0, 9) {
			t.Error("of none")
		}
	}
}

// TestEntry: P32.5.
func TestEntry(t *testing.T) {
	s := plan.Schedule{Modules: 5, Frames: [2][]plan.Window{
		{data(2, 0, []int{0, 1}, []int{2, 3, 4}), {Kind: plan.Gap, Bits: 30}, data(1, 9, []int{4, 2}, []int{1})},
		{data(1, 3, []int{2}, []int{0}), {Kind: plan.Short}, data(8, 9, []int{3, 2, 1, 0}, []int{4})},
	}}
	for seed := range int64(40) {
		r := rand.New(rand.NewSource(seed))
		pattern := make([]byte, 1+r.Intn(60))
		r.Read(pattern)
		c := budget.Course{Fault: fault.Fault{Kind: r.Intn(3), Module: 1 + r.Intn(2), Y: r.Intn(2) == 0, Line: r.Intn(4), Pattern: pattern}}
		for m := range 5 {
			for tick := r.Intn(4400); tick < 60000; tick += 4400 {
				c.Slips = append(c.Slips, budget.Slip{Module: m, Y: r.Intn(2) == 0, Tick: tick, By: 1 - 2*r.Intn(2)})
			}
		}
		p := made(t, plane.Setup{Schedule: s, Course: c, Skew: r.Uint32(), On: 0b00111, Version: r.Intn(2)})
		for n := range 4 {
			m := 3 + n%2
			p.Run(r.Intn(3000))
			p.Pair(0).Want(r.Intn(2) == 0)
			ticks, code := entry.On(p, m, entry.Bound(s))
			if code != api.OK {
				t.Fatal(seed, m, ticks, code)
			}
			p.Run(300)
			if !entry.Same(p, 0, m, api.Apart) {
				t.Fatal(seed, m)
			}
			if n < 2 {
				p.Run(r.Intn(500))
				p.Pair(m).Power(false)
			}
		}
	}
}
