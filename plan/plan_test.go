package plan_test

import (
	"math"
	"slices"
	"testing"

	"busbar/plan"
)

func data(words, addr int, from, to []int) plan.Window {
	return plan.Window{Kind: plan.Data, Words: words, Addr: addr, From: from, To: to}
}

// sample is a schedule with all kinds of windows.
func sample() plan.Schedule {
	return plan.Schedule{Modules: 4, Frames: [2][]plan.Window{
		{data(2, 5, []int{0}, []int{1, 2}), {Kind: plan.Gap, Bits: 7}, {Kind: plan.Short}, data(8, 40, []int{3, 1, 2, 0}, nil)},
		{{Kind: plan.Short}, data(1, 0, []int{2, 3}, []int{0})},
	}}
}

// TestKinds: kinds by their numbers.
func TestKinds(t *testing.T) {
	if plan.Data != 0 || plan.Gap != 1 || plan.Short != 2 || plan.Long != 3 || plan.Version != 4 {
		t.Error(plan.Data, plan.Gap, plan.Short, plan.Long, plan.Version)
	}
}

// TestTicks: P7.1.
func TestTicks(t *testing.T) {
	five := []int{0, 1, 2, 3, 4}
	for _, c := range []struct {
		w    plan.Window
		want int
	}{
		{data(2, 0, five[:1], nil), 520}, {data(1, 0, five[:1], nil), 360}, {data(1, 0, nil, nil), 360}, {data(1, 0, five[:2], nil), 440},
		{data(8, 0, five[:4], nil), (10 + 64 + 12) * 20}, {data(8, 0, five, nil), (10 + 64 + 12) * 20}, {data(9, 0, five, nil), (10 + 64 + 12) * 20},
		{data(0, 0, five[:1], nil), 200}, {data(-1, 0, five[:1], nil), 200}, {data(math.MaxInt, 0, nil, nil), 1480}, {data(math.MinInt, 0, nil, nil), 200},
		{plan.Window{Kind: plan.Gap, Bits: 1}, 20}, {plan.Window{Kind: plan.Gap, Bits: 1000}, 20000}, {plan.Window{Kind: plan.Gap, Bits: 1001}, 20000},
		{plan.Window{Kind: plan.Gap, Bits: -1}, 0}, {plan.Window{Kind: plan.Gap, Bits: math.MaxInt}, 20000}, {plan.Window{Kind: plan.Gap, Bits: math.MinInt}, 0},
		{plan.Window{Kind: plan.Short, Bits: 9, Words: 3}, 120},
		{plan.Window{Kind: plan.Long}, 0}, {plan.Window{Kind: plan.Version}, 0}, {plan.Window{Kind: -1}, 0}, {plan.Window{Kind: 5, Bits: 3}, 0},
	} {
		if got := plan.Ticks(c.w); got != c.want {
			t.Errorf("Ticks(%v) = %d, not %d", c.w, got, c.want)
		}
	}
}

// TestFrame: P7.1.
func TestFrame(t *testing.T) {
	s := sample()
	for _, c := range [][2]int{{0, (10 + 26 + 7 + 6 + 86 + 6) * 20}, {1, (12 + 6 + 22 + 6) * 20}, {2, 0}, {-1, 0}, {math.MinInt, 0}, {math.MaxInt, 0}} {
		if got := plan.Frame(s, c[0]); got != c[1] {
			t.Errorf("Frame(%d) = %d, not %d", c[0], got, c[1])
		}
	}
	if plan.Frame(plan.Schedule{}, 0) != 320 || plan.Frame(plan.Schedule{}, 1) != 360 {
		t.Error(plan.Frame(plan.Schedule{}, 0), plan.Frame(plan.Schedule{}, 1))
	}
}

// TestView: P7.2.
func TestView(t *testing.T) {
	s := sample()
	want := []plan.Slot{
		{Kind: plan.Long, Start: 0, Long: 200, Cand: -1},
		{Kind: plan.Data, Start: 200, Long: 520, Words: 2, Addr: 5, Many: 1, Cand: -1, Take: true},
		{Kind: plan.Gap, Start: 720, Long: 140, Cand: -1},
		{Kind: plan.Short, Start: 860, Long: 120, Cand: -1},
		{Kind: plan.Data, Start: 980, Long: 1720, Words: 8, Addr: 40, Many: 4, Cand: 1},
		{Kind: plan.Version, Start: 2700, Long: 120, Cand: -1},
	}
	if got := plan.View(s, 0, 1); !slices.Equal(got, want) {
		t.Errorf("%+v", got)
	}
	want = []plan.Slot{
		{Kind: plan.Long, Start: 0, Long: 240, Cand: -1},
		{Kind: plan.Short, Start: 240, Long: 120, Cand: -1},
		{Kind: plan.Data, Start: 360, Long: 440, Words: 1, Many: 2, Cand: 1},
		{Kind: plan.Version, Start: 800, Long: 120, Cand: -1},
	}
	if got := plan.View(s, 1, 3); !slices.Equal(got, want) {
		t.Errorf("%+v", got)
	}
	for _, version := range []int{-1, 2, math.MinInt, math.MaxInt} {
		if got := plan.View(s, version, 0); len(got) != 0 {
			t.Error(version, got)
		}
	}
}

// TestViewCut: P7.2, of numbers that are cut, and windows that are none.
func TestViewCut(t *testing.T) {
	s := plan.Schedule{Frames: [2][]plan.Window{{
		{Kind: plan.Long}, {Kind: 7}, data(99, -3, []int{9, 8, 9, 7, 6, 5}, []int{5, 5}), {Kind: plan.Version}, {Kind: -1}, data(-1, math.MaxInt, []int{5}, []int{5}),
	}}}
	got := plan.View(s, 0, 5)
	want := []plan.Slot{
		{Kind: plan.Long, Long: 200, Cand: -1},
		{Kind: plan.Data, Start: 200, Long: 1720, Words: 8, Addr: -3, Many: 4, Cand: -1, Take: true},
		{Kind: plan.Data, Start: 1920, Long: 200, Addr: math.MaxInt, Many: 1, Cand: 0, Take: true},
		{Kind: plan.Version, Start: 2120, Long: 120, Cand: -1},
	}
	if !slices.Equal(got, want) {
		t.Errorf("%+v", got)
	}
	if got := plan.View(s, 0, 9); got[1].Cand != 0 || got[1].Take {
		t.Errorf("%+v", got)
	}
	if got := plan.View(s, 0, 7); got[1].Cand != 3 {
		t.Errorf("%+v", got)
	}
}

// TestViewNobody: P7.2: a message that nobody may send has the room of one candidate, and counts as having one.
func TestViewNobody(t *testing.T) {
	for n, from := range [][]int{nil, {}, make([]int, 0, 3), []int{4, 5}[:0]} {
		l := []plan.Window{data(1, 7, from, []int{1}), {Kind: plan.Short}, data(3, 0, from, nil)}
		for version := range 2 {
			s := plan.Schedule{Modules: 2}
			s.Frames[version] = l
			first := 200 + 40*version
			for _, module := range []int{math.MinInt, -1, 0, 1, 4, math.MaxInt} {
				want := []plan.Slot{
					{Kind: plan.Long, Long: first, Cand: -1},
					{Kind: plan.Data, Start: first, Long: 360, Words: 1, Addr: 7, Many: 1, Cand: -1, Take: module == 1},
					{Kind: plan.Short, Start: first + 360, Long: 120, Cand: -1},
					{Kind: plan.Data, Start: first + 480, Long: 680, Words: 3, Many: 1, Cand: -1},
					{Kind: plan.Version, Start: first + 1160, Long: 120, Cand: -1},
				}
				got := plan.View(s, version, module)
				if !slices.Equal(got, want) {
					t.Fatalf("%d %d %d: %+v", n, version, module, got)
				}
				if got[1].Begin(0) != 40 || got[1].Begin(1) != 0 {
					t.Error(n, got[1].Begin(0), got[1].Begin(1))
				}
			}
		}
	}
}

// TestPulse: P7.3.
func TestPulse(t *testing.T) {
	for _, c := range []struct {
		s        plan.Slot
		from, to int
	}{
		{plan.Slot{Kind: plan.Long, Long: 200}, 60, 140}, {plan.Slot{Kind: plan.Long, Long: 240}, 60, 180},
		{plan.Slot{Kind: plan.Short, Long: 120}, 40, 80}, {plan.Slot{Kind: plan.Version, Long: 120, Start: 77}, 40, 80},
		{plan.Slot{Kind: plan.Data, Long: 520, Start: 99}, 440, 480}, {plan.Slot{Kind: plan.Data, Long: 1720, Words: 1}, 1640, 1680},
		{plan.Slot{Kind: plan.Gap, Long: 500}, 0, 0}, {plan.Slot{Kind: 5, Long: 500}, 0, 0}, {plan.Slot{Kind: -1, Long: 500}, 0, 0},
	} {
		if from, to := c.s.Pulse(); from != c.from || to != c.to {
			t.Errorf("%+v: %d %d", c.s, from, to)
		}
	}
}

// TestBegin: P7.3.
func TestBegin(t *testing.T) {
	for _, c := range []struct{ kind, many, cand, want int }{
		{plan.Data, 1, 0, 40}, {plan.Data, 4, 1, 120}, {plan.Data, 4, 3, 280}, {plan.Data, 4, 4, 0}, {plan.Data, 1, 1, 0},
		{plan.Data, 0, 0, 40}, {plan.Data, 0, 1, 0}, {plan.Data, -7, 0, 40}, {plan.Data, 4, -1, 0}, {plan.Data, 4, math.MinInt, 0}, {plan.Data, 4, math.MaxInt, 0},
		{plan.Gap, 4, 0, 0}, {plan.Short, 4, 0, 0}, {plan.Long, 1, 0, 0}, {plan.Version, 1, 0, 0}, {9, 1, 0, 0},
	} {
		if got := (plan.Slot{Kind: c.kind, Many: c.many}).Begin(c.cand); got != c.want {
			t.Errorf("%+v: %d", c, got)
		}
	}
	if got := (plan.Slot{Many: math.MaxInt}).Begin(math.MaxInt - 1); got < 0 {
		t.Error(got)
	}
}

// TestSame: P7.4.
func TestSame(t *testing.T) {
	if !plan.Same(plan.Schedule{}, plan.Schedule{Frames: [2][]plan.Window{{}, {}}}) || !plan.Same(sample(), sample()) {
		t.Error("not alike")
	}
	empty := plan.Schedule{Frames: [2][]plan.Window{{{From: []int{}}}}}
	if !plan.Same(empty, plan.Schedule{Frames: [2][]plan.Window{{{To: []int{}}}}}) {
		t.Error("nil and empty")
	}
	for n, change := range []func(s *plan.Schedule){
		func(s *plan.Schedule) { s.Modules++ },
		func(s *plan.Schedule) { s.Frames[0][0].Kind++ },
		func(s *plan.Schedule) { s.Frames[0][0].Bits++ },
		func(s *plan.Schedule) { s.Frames[0][1].Words++ },
		func(s *plan.Schedule) { s.Frames[0][2].Addr++ },
		func(s *plan.Schedule) { s.Frames[1][1].From[1]++ },
		func(s *plan.Schedule) { s.Frames[1][1].To[0]++ },
		func(s *plan.Schedule) { s.Frames[0][3].To = []int{0} },
		func(s *plan.Schedule) { s.Frames[1] = s.Frames[1][:1] },
		func(s *plan.Schedule) { s.Frames[0], s.Frames[1] = s.Frames[1], s.Frames[0] },
		func(s *plan.Schedule) { l := s.Frames[0][0].To; l[0], l[1] = l[1], l[0] },
		func(s *plan.Schedule) { l := s.Frames[0]; l[1], l[2] = l[2], l[1] },
	} {
		s := sample()
		change(&s)
		if plan.Same(s, sample()) || plan.Same(sample(), s) {
			t.Error(n)
		}
	}
}

// TestClone: P7.4.
func TestClone(t *testing.T) {
	s := sample()
	c := plan.Clone(s)
	if !plan.Same(s, c) {
		t.Error(c)
	}
	for version := range c.Frames {
		for n := range c.Frames[version] {
			w := &c.Frames[version][n]
			for _, l := range [][]int{w.From, w.To} {
				for k := range l[:cap(l)] {
					l[:cap(l)][k] = -9
				}
			}
			w.Kind = 99
		}
	}
	if !plan.Same(s, sample()) {
		t.Error(s)
	}
}

// TestOneBehindTheOther: P7.5.
func TestOneBehindTheOther(t *testing.T) {
	for n := range 400 {
		var l []plan.Window
		for k := range n % 9 {
			w := plan.Window{Kind: (n + k*k) % 3, Bits: 1 + (n*7+k)%50, Words: 1 + (n+k)%8}
			w.From = []int{0, 1, 2, 3}[:(n+k)%5]
			l = append(l, w)
		}
		s := plan.Schedule{Frames: [2][]plan.Window{l, l}}
		for version := range 2 {
			at := 0
			slots := plan.View(s, version, 0)
			for _, slot := range slots {
				if slot.Start != at {
					t.Fatal(n, slot)
				}
				at += slot.Long
				from, to := slot.Pulse()
				if slot.Kind != plan.Gap && (from < 40 || to <= from || to > slot.Long-40) {
					t.Fatal(n, slot, from, to)
				}
				if slot.Kind == plan.Data != (slot.Many > 0) {
					t.Fatal(n, slot)
				}
				for cand := range slot.Many {
					if end := slot.Begin(cand) + 160*slot.Words; end+80 > from {
						t.Fatal(n, slot, cand, end)
					}
				}
			}
			if at != plan.Frame(s, version) || slots[0].Kind != plan.Long || slots[len(slots)-1].Kind != plan.Version {
				t.Fatal(n, at)
			}
		}
	}
}
