package plane_test

import (
	"bytes"
	"math"
	"slices"
	"testing"

	"busbar/api"
	"busbar/biu"
	"busbar/budget"
	"busbar/bus"
	"busbar/compile"
	"busbar/fault"
	"busbar/pair"
	"busbar/plan"
	"busbar/plane"
)

func data(words, addr int, from, to []int) plan.Window {
	return plan.Window{Kind: plan.Data, Words: words, Addr: addr, From: from, To: to}
}

// setup is a plane of three modules, all on.
func setup() plane.Setup {
	return plane.Setup{Schedule: plan.Schedule{Modules: 3, Frames: [2][]plan.Window{{data(1, 5, []int{0}, []int{1, 2})}}}, On: 7}
}

func made(t *testing.T, s plane.Setup) *plane.Plane {
	t.Helper()
	p, code := plane.New(s)
	if code != api.OK {
		t.Fatal(code)
	}
	return p
}

// TestNewWrong: P25.1.
func TestNewWrong(t *testing.T) {
	for n, c := range []struct {
		change func(s *plane.Setup)
		want   api.Errno
	}{
		{func(s *plane.Setup) { s.Schedule.Modules = 1; s.Version = 2 }, api.ErrArg},
		{func(s *plane.Setup) { s.Schedule.Frames[1] = []plan.Window{{Kind: plan.Gap}}; s.Version = 2 }, api.ErrBig},
		{func(s *plane.Setup) {
			s.Schedule.Frames[1] = slices.Repeat([]plan.Window{{Kind: plan.Gap, Bits: 100}}, 2)
		}, api.ErrFar},
		{func(s *plane.Setup) { s.Version = 2; s.Course.Slips = []budget.Slip{{By: 1}, {By: 1}} }, api.ErrArg},
		{func(s *plane.Setup) { s.Version = -1 }, api.ErrArg}, {func(s *plane.Setup) { s.Version = math.MinInt }, api.ErrArg},
		{func(s *plane.Setup) { s.Course.Slips = []budget.Slip{{By: 1}, {By: 1}} }, api.ErrOver},
		{func(s *plane.Setup) { s.Course.Slips = []budget.Slip{{By: 1, Module: 3}} }, api.ErrArg},
		{func(s *plane.Setup) { s.Course.Fault = fault.Fault{Kind: fault.Side, Module: 3, Pattern: []byte{0}} }, api.ErrArg},
	} {
		s := setup()
		c.change(&s)
		if p, code := plane.New(s); code != c.want || p != nil {
			t.Error(n, code)
		}
	}
}

// TestNew: P25.1 and P25.3.
func TestNew(t *testing.T) {
	s := setup()
	s.On, s.Spoilt, s.Version = 5|0xff00, 4|0xf000, 1
	p := made(t, s)
	tables, _ := compile.All(s.Schedule)
	if p.Modules() != 3 || p.Tick() != 0 || len(p.Events()) != 0 {
		t.Error(p.Modules(), p.Tick())
	}
	for m := range 2 {
		program, _ := compile.Load(tables[m])
		if one := p.Pair(m); one.Module() != m || !one.Program().Same(program) || one.InSync() != (m == 0) || !p.Healthy(m) {
			t.Error(m, one.Module())
		}
	}
	if p.Pair(0).Unit(true).Version() != 1 || p.Pair(1).Unit(false).State() != biu.Off || p.Pair(2).Module() != -1 || p.Healthy(2) {
		t.Error(p.Pair(0).Unit(true).Version(), p.Pair(2).Module())
	}
	for _, m := range []int{-1, 3, 12, math.MinInt, math.MaxInt} {
		if p.Pair(m) != nil || p.Healthy(m) {
			t.Error(m)
		}
	}
	if p.Pair(0) != p.Pair(0) || p.Bus() != p.Bus() || p.Bus() == nil {
		t.Error("a copy")
	}
}

// TestKeepsNothing: P25.1: what is handed in is not kept.
func TestKeepsNothing(t *testing.T) {
	s := setup()
	s.Course = budget.Course{Fault: fault.Fault{Kind: fault.Line, Pattern: []byte{2}}, Slips: []budget.Slip{{Tick: 50, By: 1}}}
	p, q := made(t, s), made(t, setup())
	s.Schedule.Frames[0][0].From[0] = 2
	s.Schedule.Frames[0] = nil
	s.Course.Fault.Pattern[0] = 1
	s.Course.Slips[0].Tick = 10
	for range 50 {
		p.Step()
		q.Step()
		if p.Bus().Lines() != q.Bus().Lines() || p.Apart() != 0 {
			t.Fatal(p.Tick(), p.Bus().Lines(), p.Apart())
		}
	}
	p.Step()
	if p.Apart() != 1 {
		t.Error(p.Apart())
	}
}

// TestSkew: P25.1: each bit is of one unit.
func TestSkew(t *testing.T) {
	for bit := range 6 {
		s := setup()
		s.Skew = 1 << bit
		p := made(t, s)
		p.Run(100)
		for m := range 3 {
			for u, y := range []bool{false, true} {
				want := 100
				if 2*m+u == bit {
					want = 99 // it was set a tick later
				}
				if _, place := p.Pair(m).Unit(y).Place(); place != want {
					t.Error(bit, m, y, place)
				}
			}
		}
	}
}

// TestStep: P25.2: tick by tick, as the modules and the bus alone do it.
func TestStep(t *testing.T) {
	s := setup()
	s.Course.Fault = fault.Fault{Kind: fault.Side, Module: 1, From: 300, Pattern: []byte{5, 3, 0xff, 4}}
	s.Course.Slips = []budget.Slip{{Tick: 30, By: 1}, {Module: 2, Y: true, Tick: 90, By: -1}, {Module: 1, Tick: 5000, By: 1}}
	p := made(t, s)
	tables, _ := compile.All(s.Schedule)
	b := bus.New(3)
	var pairs []*pair.Pair
	for _, table := range tables {
		one := pair.New(table, [2]int{})
		one.Join(0)
		pairs = append(pairs, one)
	}
	var events []pair.Event
	for tick := range 8000 {
		if p.Tick() != tick {
			t.Fatal(tick, p.Tick())
		}
		p.Step()
		for _, one := range pairs {
			one.Ready(tick)
		}
		for m, one := range pairs {
			b.Put(m, one.Drive(s.Course.Fault, tick))
		}
		lines := b.Settle(s.Course.Fault, tick)
		for m, one := range pairs {
			one.Step(lines, tick, [2]int{s.Course.At(m, false, tick), s.Course.At(m, true, tick)})
			events = append(events, one.Events()...)
		}
		if p.Bus().Lines() != lines {
			t.Fatal(tick, p.Bus().Lines(), lines)
		}
		for m, one := range pairs {
			if p.Bus().Drove(m) != b.Drove(m) || !one.Memory().Same(p.Pair(m).Memory()) || one.InSync() != p.Pair(m).InSync() {
				t.Fatal(tick, m)
			}
		}
	}
	slices.SortStableFunc(events, func(a, b pair.Event) int { return a.Module - b.Module })
	got := p.Events()
	if len(got) == 0 || !slices.EqualFunc(got, events, func(a, b pair.Event) bool {
		return a.Tick == b.Tick && a.Module == b.Module && a.What == b.What && bytes.Equal(a.Words, b.Words)
	}) {
		t.Error(got, events)
	}
	if len(p.Events()) != 0 {
		t.Error("told twice")
	}
}

// TestRun: P25.2.
func TestRun(t *testing.T) {
	p := made(t, setup())
	for _, ticks := range []int{0, -1, math.MinInt} {
		if got := p.Run(ticks); got != 0 || p.Tick() != 0 {
			t.Error(ticks, got, p.Tick())
		}
	}
	if got := p.Run(100); got != 100 || p.Tick() != 100 || len(p.Good()) != 3 || p.Apart() != 0 {
		t.Error(got, p.Tick(), p.Good(), p.Apart())
	}
	if testing.Short() {
		return
	}
	q := made(t, plane.Setup{Schedule: plan.Schedule{Modules: 2}})
	if got := q.Run(math.MaxInt); got != api.MaxTicks || q.Tick() != api.MaxTicks {
		t.Error(got, q.Tick())
	}
}

// TestNobodyMade: P25.2.
func TestNobodyMade(t *testing.T) {
	for _, p := range []*plane.Plane{nil, {}} {
		p.Step()
		if p.Run(5) != 0 || p.Tick() != 0 || p.Modules() != 0 || p.Pair(0) != nil || p.Bus() != nil || len(p.Events()) != 0 || p.Healthy(0) || len(p.Good()) != 0 || p.Apart() != 0 {
			t.Error(p.Tick(), p.Modules())
		}
		if n, ok := p.Next(10); n != 0 || ok {
			t.Error(n, ok)
		}
	}
}

// TestGood: P25.3 and P25.4.
func TestGood(t *testing.T) {
	s := setup()
	s.Schedule.Modules, s.On = 5, 0b11101
	s.Spoilt = 1 << 4
	s.Course.Fault = fault.Fault{Kind: fault.Side, Module: 2, Pattern: []byte{0xff}}
	p := made(t, s)
	if !slices.Equal(p.Good(), []int{0, 3}) || p.Lead() != 0 || p.Healthy(2) || !p.Healthy(1) || p.Healthy(4) {
		t.Error(p.Good(), p.Lead())
	}
	p.Pair(0).Power(false)
	if !slices.Equal(p.Good(), []int{3}) || p.Lead() != 3 {
		t.Error(p.Good(), p.Lead())
	}
	p.Pair(3).Unit(true).Power(false)
	if len(p.Good()) != 0 || p.Lead() != -1 || p.Apart() != 0 {
		t.Error(p.Good(), p.Lead())
	}
	s.Course.Fault = fault.Fault{Kind: fault.Line, Module: 2, Pattern: []byte{1}}
	if p := made(t, s); !slices.Equal(p.Good(), []int{0, 2, 3}) {
		t.Error(p.Good())
	}
}

// TestApart: P25.4.
func TestApart(t *testing.T) {
	s := setup()
	s.Course.Slips = []budget.Slip{{Module: 0, Tick: 9, By: 1}, {Module: 1, Y: true, Tick: 20, By: -1}, {Module: 2, Tick: 4420, By: 1}}
	p := made(t, s)
	for tick, want := range map[int]int{9: 0, 10: 1, 20: 1, 21: 2, 59: 2} {
		p := made(t, s)
		p.Run(tick)
		if got := p.Apart(); got != want {
			t.Error(tick, got)
		}
	}
	p.Run(70)
	if got := p.Apart(); got != 0 {
		t.Error(got)
	}
	// A module that is not good does not count.
	s.Course.Fault = fault.Fault{Kind: fault.Side, Module: 1, Pattern: []byte{0xff}}
	p = made(t, s)
	p.Run(30)
	if got := p.Apart(); got != 1 {
		t.Error(got)
	}
	// Through the end of a frame the shorter way counts.
	s = setup()
	s.Course.Slips = []budget.Slip{{Module: 0, Tick: 500, By: 1}}
	p = made(t, s)
	p.Run(679)
	if _, place := p.Pair(0).Unit(false).Place(); place != 0 || p.Apart() != 1 {
		t.Error(place, p.Apart())
	}
}

// TestNext: P25.5.
func TestNext(t *testing.T) {
	p := made(t, setup())
	if n, ok := p.Next(10); n != 10 || ok || p.Tick() != 10 {
		t.Error(n, ok, p.Tick())
	}
	if n, ok := p.Next(669); n != 669 || ok {
		t.Error(n, ok)
	}
	if n, ok := p.Next(1); n != 1 || !ok || p.Tick() != 680 {
		t.Error(n, ok, p.Tick())
	}
	if n, ok := p.Next(math.MaxInt); n != 680 || !ok {
		t.Error(n, ok)
	}
	// It is the unit x that counts.
	s := setup()
	s.Course.Slips = []budget.Slip{{Y: true, Tick: 500, By: 1}}
	if n, ok := made(t, s).Next(1000); n != 680 || !ok {
		t.Error(n, ok)
	}
	s.Course.Slips[0].Y = false
	if n, ok := made(t, s).Next(1000); n != 679 || !ok {
		t.Error(n, ok)
	}
	for _, most := range []int{0, -1, math.MinInt} {
		if n, ok := p.Next(most); n != 0 || ok {
			t.Error(most, n, ok)
		}
	}
	for m := range 3 {
		p.Pair(m).Power(false)
	}
	if n, ok := p.Next(10); n != 0 || ok || p.Tick() != 1360 {
		t.Error(n, ok, p.Tick())
	}
}

// TestSecond: of two candidates the first one may not send: the second one does, 80 ticks later, and who takes it notes the candidate 1.
func TestSecond(t *testing.T) {
	s := setup()
	s.Schedule.Frames[0] = []plan.Window{data(1, 5, []int{0, 1}, []int{2})}
	p := made(t, s)
	p.Pair(0).Allow(false)
	p.Pair(1).Memory().Write(5, []byte{0x42})
	first := -1
	for p.Tick() < 640 {
		p.Step()
		if first < 0 && p.Tick() > 200 && p.Bus().Lines() != 0 {
			first = p.Tick() - 1
		}
	}
	if first != 200+40+80 {
		t.Error(first)
	}
	e := p.Events()
	if len(e) != 2 || e[1].What != pair.Took || e[1].Cand != 1 || !bytes.Equal(e[1].Words, []byte{0x42}) {
		t.Error(e)
	}
}
