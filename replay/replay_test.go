package replay_test

import (
	"math"
	"math/rand"
	"slices"
	"testing"

	"busbar/api"
	"busbar/budget"
	"busbar/compile"
	"busbar/fault"
	"busbar/pair"
	"busbar/plan"
	"busbar/plane"
	"busbar/replay"
	"busbar/trace"
	"busbar/wave"
	"busbar/wires"
)

func data(words, addr int, from, to []int) plan.Window {
	return plan.Window{Kind: plan.Data, Words: words, Addr: addr, From: from, To: to}
}

func schedule() plan.Schedule {
	return plan.Schedule{Modules: 3, Frames: [2][]plan.Window{
		{data(2, 5, []int{0, 1}, []int{2}), data(1, 9, []int{2}, []int{0, 1})},
		{data(1, 1, []int{1}, []int{2}), {Kind: plan.Short}},
	}}
}

func made(t *testing.T, s plane.Setup) *plane.Plane {
	t.Helper()
	p, code := plane.New(s)
	if code != api.OK {
		t.Fatal(code)
	}
	return p
}

func tables(t *testing.T) [][]byte {
	t.Helper()
	l, code := compile.All(schedule())
	if code != api.OK {
		t.Fatal(code)
	}
	return l
}

// TestNew: P39.1.
func TestNew(t *testing.T) {
	p := replay.New(tables(t)[1], [2]int{}, budget.Course{})
	if p.Pair() == nil || p.Pair() != p.Pair() || p.Pair().Module() != 1 || p.Tick() != 0 {
		t.Error(p.Pair().Module(), p.Tick())
	}
	for _, none := range []*replay.Player{nil, {}} {
		if none.See(15, 15) != 0 || len(none.All(wave.Wave{{L: 15, Ticks: 5}})) != 0 || none.Pair() != nil || none.Tick() != 0 {
			t.Error("of none")
		}
	}
	silent := replay.New([]byte{1}, [2]int{}, budget.Course{})
	if silent.See(15, 0) != 0 || silent.Pair().Module() != -1 || silent.Tick() != 2 {
		t.Error(silent.Tick())
	}
}

// TestSlips: P39.1: the slips of the module of that number count, and no fault.
func TestSlips(t *testing.T) {
	c := budget.Course{
		Fault: fault.Fault{Kind: fault.Side, Module: 1, Pattern: []byte{0}},
		Slips: []budget.Slip{{Module: 0, Tick: 5, By: 1}, {Module: 1, Tick: 7, By: 1}, {Module: 1, Y: true, Tick: 9, By: -1}},
	}
	p := replay.New(tables(t)[1], [2]int{}, c)
	c.Slips[1].Tick = 1
	p.Pair().Join(0)
	for tick := range 59 {
		x, y := tick, tick
		if tick > 7 {
			x++
		}
		if tick > 9 {
			y--
		}
		if _, place := p.Pair().Unit(false).Place(); place != x {
			t.Fatal(tick, place)
		}
		if _, place := p.Pair().Unit(true).Place(); place != y {
			t.Fatal(tick, place)
		}
		p.See(0)
	}
	// x comes to its pulse first, and y lets it, as it is no more than 4 ticks ahead of its own
	if got := p.See(0, 0); got != 3 {
		t.Error(got)
	}
}

// TestSee: P39.2, as a module alone does it.
func TestSee(t *testing.T) {
	table := tables(t)[2]
	p := replay.New(table, [2]int{0, 1}, budget.Course{})
	one := pair.New(table, [2]int{0, 1})
	p.Pair().Join(1)
	one.Join(1)
	r := rand.New(rand.NewSource(1))
	tick := 0
	for range 300 {
		var l []wires.Lines
		var want wires.Lines
		for range r.Intn(4) {
			lines := wires.Lines(r.Intn(16))
			if tick%360 > 60 && tick%360 < 180 {
				lines = 15
			}
			l = append(l, lines)
			one.Ready(tick)
			want = one.Drive(fault.Fault{}, tick)
			one.Step(lines, tick, [2]int{})
			tick++
		}
		if got := p.See(l...); got != want || p.Tick() != tick {
			t.Fatal(tick, got, want, p.Tick())
		}
	}
	if p.See() != 0 || p.Tick() != tick {
		t.Error(p.Tick())
	}
}

// TestRecord: P39.3.
func TestRecord(t *testing.T) {
	s := plane.Setup{Schedule: schedule(), On: 7}
	p, q := made(t, s), made(t, s)
	lines, drove := replay.Record(p, 500)
	if p.Tick() != 500 || lines.Long() != 500 || len(drove) != 3 {
		t.Fatal(p.Tick(), lines.Long(), len(drove))
	}
	for tick := range 500 {
		q.Step()
		if l, _ := lines.At(tick); l != q.Bus().Lines() {
			t.Fatal(tick, l)
		}
		for m := range 3 {
			if l, _ := drove[m].At(tick); l != q.Bus().Drove(m) {
				t.Fatal(tick, m, l)
			}
		}
	}
	for _, ticks := range []int{0, -1, math.MinInt} {
		if lines, drove := replay.Record(p, ticks); len(lines) != 0 || slices.ContainsFunc(drove, func(w wave.Wave) bool { return len(w) > 0 }) || p.Tick() != 500 {
			t.Error(ticks, lines, drove)
		}
	}
	for _, none := range []*plane.Plane{nil, {}} {
		if lines, drove := replay.Record(none, 10); len(lines) != 0 || len(drove) != 0 {
			t.Error(lines, drove)
		}
	}
	few := made(t, plane.Setup{Schedule: plan.Schedule{Modules: 2}})
	if lines, _ := replay.Record(few, math.MaxInt); lines.Long() != api.MaxTicks || few.Tick() != api.MaxTicks {
		t.Error(lines.Long(), few.Tick())
	}
}

// TestDiffer: P39.4.
func TestDiffer(t *testing.T) {
	parse := func(s string) wave.Wave {
		w, code := wave.Parse(s)
		if code != api.OK {
			t.Fatal(s)
		}
		return w
	}
	for _, c := range []struct {
		a, b string
		want int
	}{{"2x5", "3x5", 2}, {"3x5", "2x5", 2}, {"-", "-", -1}, {"-", "1x0", 0}, {"2x5 3x1", "2x5 3x1", -1}, {"2x5 3x1", "2x5 2x1 1x0", 4}, {"1x5", "1x4", 0}, {"2x5 3x1", "1x5 4x1", 1}} {
		if got := replay.Differ(parse(c.a), parse(c.b)); got != c.want {
			t.Error(c, got)
		}
	}
	if got := replay.Differ(wave.Wave{{L: 5, Ticks: 1}, {L: 0xf5, Ticks: 2}, {L: 3, Ticks: 0}}, parse("3x5")); got != -1 {
		t.Error(got)
	}
}

// TestAgain: P39.5, of planes by chance.
func TestAgain(t *testing.T) {
	for seed := range int64(20) {
		r := rand.New(rand.NewSource(seed))
		pattern := make([]byte, 1+r.Intn(50))
		r.Read(pattern)
		c := budget.Course{Fault: fault.Fault{Kind: r.Intn(3), Module: r.Intn(3), Y: r.Intn(2) == 0, Line: r.Intn(4), Pattern: pattern}}
		for m := range 3 {
			for tick := r.Intn(4400); tick < 9000; tick += 4400 {
				c.Slips = append(c.Slips, budget.Slip{Module: m, Y: r.Intn(2) == 0, Tick: tick, By: 1 - 2*r.Intn(2)})
			}
		}
		s := plane.Setup{Schedule: schedule(), Course: c, Skew: r.Uint32(), On: 3}
		p := made(t, s)
		words := make([]byte, 16)
		r.Read(words)
		for m := range 3 {
			p.Pair(m).Memory().Write(0, words)
			p.Pair(m).Want(m == 1)
			if m == 2 {
				p.Pair(m).Power(true)
			}
		}
		lines, drove := replay.Record(p, 9000)
		events := p.Events()
		for m, table := range tables(t) {
			if !p.Healthy(m) {
				continue
			}
			again := replay.New(table, [2]int{int(s.Skew >> (2 * m) & 1), int(s.Skew >> (2*m + 1) & 1)}, c)
			again.Pair().Memory().Write(0, words)
			again.Pair().Want(m == 1)
			if m == 2 {
				again.Pair().Power(true)
			} else {
				again.Pair().Join(0)
			}
			if at := replay.Differ(again.All(lines), drove[m]); at != -1 || again.Tick() != 9000 {
				t.Fatal(seed, m, at)
			}
			if !again.Pair().Memory().Same(p.Pair(m).Memory()) {
				t.Fatal(seed, m, "memories")
			}
			own := slices.DeleteFunc(slices.Clone(events), func(e pair.Event) bool { return e.Module != m })
			if !slices.EqualFunc(again.Pair().Events(), own, func(a, b pair.Event) bool { return trace.Text(a) == trace.Text(b) && a.Since == b.Since }) {
				t.Fatal(seed, m, "events")
			}
		}
	}
}
