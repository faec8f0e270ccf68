package probe_test

import (
	"bytes"
	"math/rand"
	"slices"
	"testing"

	"busbar/api"
	"busbar/budget"
	"busbar/fault"
	"busbar/pair"
	"busbar/plan"
	"busbar/plane"
	"busbar/probe"
	"busbar/wave"
	"busbar/wires"
)

// low and high tell so many ticks of all lines.
func low(ticks int) wave.Run  { return wave.Run{L: 0, Ticks: ticks} }
func high(ticks int) wave.Run { return wave.Run{L: 15, Ticks: ticks} }

// TestStarts: P38.1.
func TestStarts(t *testing.T) {
	start := func(tick, version int) probe.Start { return probe.Start{Tick: tick, Version: version} }
	for n, c := range []struct {
		w    wave.Wave
		want []probe.Start
	}{
		{nil, nil}, {wave.Wave{low(1000)}, nil}, {wave.Wave{low(20), high(80), low(20)}, []probe.Start{start(20, 0)}}, {wave.Wave{low(19), high(80), low(20)}, nil}, {wave.Wave{low(20), high(80), low(19)}, nil}, {wave.Wave{high(80), low(20)}, nil},
		{wave.Wave{low(20), high(59), low(20)}, nil}, {wave.Wave{low(20), high(60), low(20)}, []probe.Start{start(20, 0)}}, {wave.Wave{low(20), high(99), low(20)}, []probe.Start{start(20, 0)}}, {wave.Wave{low(20), high(100), low(20)}, []probe.Start{start(20, 1)}},
		{wave.Wave{low(30), {L: 7, Ticks: 61}, {L: 3, Ticks: 20}}, []probe.Start{start(30, 0)}}, {wave.Wave{low(30), {L: 3, Ticks: 80}, low(20)}, nil},
		{wave.Wave{low(30), high(60), low(19), high(10), low(20)}, []probe.Start{start(30, 0)}}, {wave.Wave{low(30), high(10), low(19), high(70), low(20)}, []probe.Start{start(30, 0)}}, {wave.Wave{low(30), high(30), low(5), high(59), low(20)}, nil},
		{wave.Wave{high(70), low(20), high(120), low(20), high(40), low(200), high(80), low(50)}, []probe.Start{start(90, 1), start(470, 0)}},
		{wave.Wave{low(20), high(80), low(40), high(30), low(20)}, []probe.Start{start(20, 0)}},
	} {
		if got := probe.Starts(c.w); !slices.Equal(got, c.want) {
			t.Error(n, got, c.want)
		}
	}
}

func data(words, addr int, from, to []int) plan.Window {
	return plan.Window{Kind: plan.Data, Words: words, Addr: addr, From: from, To: to}
}

func schedule() plan.Schedule {
	return plan.Schedule{Modules: 3, Frames: [2][]plan.Window{
		{data(2, 5, []int{0, 1}, []int{2}), {Kind: plan.Gap, Bits: 3}, {Kind: plan.Short}, data(1, 9, []int{2}, []int{0, 1})},
		{data(1, 1, []int{1}, []int{2})},
	}}
}

// record lets a plane go on, and tells how its lines stood behind some ticks without any.
func record(p *plane.Plane, ticks int) wave.Wave {
	l := make([]wires.Lines, 20)
	for range ticks {
		p.Step()
		l = append(l, p.Bus().Lines())
	}
	return wave.Of(l...)
}

func made(t *testing.T, s plane.Setup) *plane.Plane {
	t.Helper()
	p, code := plane.New(s)
	if code != api.OK {
		t.Fatal(code)
	}
	return p
}

// TestRead: P38.2.
func TestRead(t *testing.T) {
	p := made(t, plane.Setup{Schedule: schedule(), On: 7})
	p.Pair(0).Memory().Write(5, []byte{0xa5, 0x3c})
	p.Pair(1).Memory().Write(5, []byte{1, 2})
	p.Pair(2).Memory().Write(9, []byte{0x77})
	frame := plan.Frame(schedule(), 0)
	w := record(p, frame)
	p.Pair(0).Allow(false)
	p.Pair(2).Allow(false)
	w = wave.Join(w, record(p, frame).Cut(20, 1<<20))
	want := []probe.Message{
		{Slot: 1, Cand: 0, Words: []byte{0xa5, 0x3c}, Known: true}, {Slot: 4, Cand: 0, Words: []byte{0x77}, Known: true},
		{Slot: 1, Start: 1, Cand: 1, Words: []byte{1, 2}, Known: true}, {Slot: 4, Start: 1, Cand: -1},
	}
	got := probe.Read(schedule(), w)
	if len(got) != 4 {
		t.Fatal(got)
	}
	for n, m := range got {
		if !m.Same(want[n]) || m.Start != want[n].Start || m.Odd != [4]int{} {
			t.Error(n, m)
		}
	}
	if l := probe.Good(got); len(l) != 3 || !bytes.Equal(l[1], []byte{0x77}) || !bytes.Equal(l[2], []byte{1, 2}) {
		t.Error(l)
	}
	// A slot counts just where its last tick lies in the wave.
	last := plan.View(schedule(), 0, -1)[4]
	end := 20 + last.Start + last.Long
	if got := probe.Read(schedule(), w.Cut(0, end)); len(got) != 2 {
		t.Error(got)
	}
	if got := probe.Read(schedule(), w.Cut(0, end-1)); len(got) != 1 {
		t.Error(got)
	}
	if got := probe.Read(schedule(), w.Cut(0, 20+160)); len(got) != 0 {
		t.Error(got)
	}
	if got := probe.Read(schedule(), nil); len(got) != 0 {
		t.Error(got)
	}
}

// TestNobody: P38.2: where a schedule names nobody who may send a message, it is heard as that of one candidate.
func TestNobody(t *testing.T) {
	s := schedule()
	s.Frames[0] = s.Frames[0][1:]
	p := made(t, plane.Setup{Schedule: s, On: 7})
	p.Pair(2).Memory().Write(9, []byte{0x77})
	w := record(p, plan.Frame(s, 0))
	s.Frames[0][2].From = nil
	want := probe.Message{Slot: 3, Words: []byte{0x77}, Known: true}
	if got := probe.Read(s, w); len(got) != 1 || !got[0].Same(want) || got[0].Odd != [4]int{} {
		t.Error(got)
	}
}

// TestVersion: P38.2, of frames of version 1.
func TestVersion(t *testing.T) {
	p := made(t, plane.Setup{Schedule: schedule(), On: 7, Version: 1})
	p.Pair(1).Memory().Write(1, []byte{0x42})
	got := probe.Read(schedule(), record(p, 2*plan.Frame(schedule(), 1)))
	if len(got) != 2 || got[0].Slot != 1 || !bytes.Equal(got[1].Words, []byte{0x42}) || got[1].Start != 1 {
		t.Error(got)
	}
}

// TestMoved: P38.2: a Short moves all behind it, by 12 ticks at most.
func TestMoved(t *testing.T) {
	for off := -15; off <= 15; off++ {
		p := made(t, plane.Setup{Schedule: schedule(), On: 7})
		p.Pair(2).Memory().Write(9, []byte{0x5a})
		w := record(p, plan.Frame(schedule(), 0))
		cut := 20 + plan.View(schedule(), 0, -1)[2].Start // the Gap ahead of the Short is longer, or shorter
		if off < 0 {
			w = wave.Join(w.Cut(0, cut), w.Cut(cut-off, 1<<20), wave.Wave{low(40)})
		} else {
			w = wave.Join(w.Cut(0, cut), wave.Wave{low(off)}, w.Cut(cut, 1<<20), wave.Wave{low(40)})
		}
		got := probe.Read(schedule(), w)
		if len(got) != 2 {
			t.Fatal(off, got)
		}
		if known := off >= -12 && off <= 12; known && (!got[1].Known || got[1].Words[0] != 0x5a) || !known && got[1].Known {
			t.Error(off, got[1])
		}
	}
}

// TestLines: P38.2, of lines that stand otherwise, and of who pulses against a message.
func TestLines(t *testing.T) {
	p := made(t, plane.Setup{Schedule: schedule(), On: 7})
	p.Pair(0).Memory().Write(5, []byte{0xa5, 0x3c})
	w := record(p, plan.Frame(schedule(), 0))
	change := func(from, to int, change func(l wires.Lines) wires.Lines) []probe.Message {
		var l []wires.Lines
		for tick, lines := range w.Ticks() {
			if tick >= 20+200+from && tick < 20+200+to {
				lines = change(lines)
			}
			l = append(l, lines)
		}
		return probe.Read(schedule(), wave.Of(l...))
	}
	m := change(40, 360, func(l wires.Lines) wires.Lines { return l.Set(2, true) })[0]
	if !m.Known || m.Odd != [4]int{0, 0, 16, 0} || m.Vetoed {
		t.Error(m)
	}
	m = change(40, 60, func(l wires.Lines) wires.Lines { return l ^ 3 })[0]
	if m.Known || len(m.Words) != 0 || m.Cand != 0 || m.Odd != [4]int{} {
		t.Error(m)
	}
	m = change(20, 40, func(wires.Lines) wires.Lines { return 3 })[0]
	if m.Cand != 0 || !m.Known {
		t.Error(m)
	}
	m = change(80, 100, func(wires.Lines) wires.Lines { return 0 })[0]
	if m.Known {
		t.Error(m)
	}
	// the slot has 600 ticks, and pulses from 520 on
	for _, c := range []struct {
		from, to int
		want     bool
	}{{520, 560, true}, {520, 530, true}, {520, 529, false}, {481, 491, true}, {480, 490, false}, {580, 590, true}, {581, 595, false}} {
		m := change(c.from, c.to, func(wires.Lines) wires.Lines { return 14 })[0]
		if m.Vetoed != c.want || !m.Known {
			t.Error(c, m)
		}
		if good := len(probe.Good([]probe.Message{m})) == 1; good == c.want {
			t.Error(c, good)
		}
	}
}

// TestSame: P38.3.
func TestSame(t *testing.T) {
	m := probe.Message{Slot: 1, Start: 2, Cand: 1, Words: []byte{7}, Known: true, Odd: [4]int{1}}
	o := m
	o.Start, o.Odd = 9, [4]int{}
	if !m.Same(o) || !(probe.Message{}).Same(probe.Message{Words: []byte{}}) {
		t.Error("not the same")
	}
	for n, change := range []func(m *probe.Message){
		func(m *probe.Message) { m.Slot++ }, func(m *probe.Message) { m.Cand++ }, func(m *probe.Message) { m.Words = nil }, func(m *probe.Message) { m.Words = []byte{8} }, func(m *probe.Message) { m.Known = false }, func(m *probe.Message) { m.Vetoed = true },
	} {
		o := m
		change(&o)
		if m.Same(o) || o.Same(m) {
			t.Error(n)
		}
	}
	l := []probe.Message{m}
	probe.Good(l)[0][0] = 99
	if m.Words[0] != 7 || len(probe.Good(nil)) != 0 {
		t.Error(m)
	}
}

// TestHeard: P38.4, of planes by chance.
func TestHeard(t *testing.T) {
	s := schedule()
	for seed := range int64(25) {
		r := rand.New(rand.NewSource(seed))
		pattern := make([]byte, 1+r.Intn(50))
		r.Read(pattern)
		c := budget.Course{Fault: fault.Fault{Kind: r.Intn(2), Line: r.Intn(4), Pattern: pattern}}
		for m := range 3 {
			for tick := r.Intn(4400); tick < 12000; tick += 4400 {
				c.Slips = append(c.Slips, budget.Slip{Module: m, Y: r.Intn(2) == 0, Tick: tick, By: 1 - 2*r.Intn(2)})
			}
		}
		p := made(t, plane.Setup{Schedule: s, Course: c, Skew: r.Uint32(), On: 7})
		var l []wires.Lines
		for tick := range 12000 {
			if tick%500 == 0 {
				w := make([]byte, 16)
				r.Read(w)
				p.Pair(r.Intn(3)).Memory().Write(0, w)
				p.Pair(r.Intn(3)).Allow(r.Intn(3) > 0)
				p.Pair(r.Intn(3)).Want(r.Intn(4) == 0)
			}
			p.Step()
			l = append(l, p.Bus().Lines())
		}
		var sent [][]byte
		for _, e := range sortedEvents(p) {
			if e.What == pair.Sent {
				sent = append(sent, e.Words)
			}
		}
		heard := probe.Good(probe.Read(s, wave.Of(l...)))
		// the last message may be cut off
		if len(heard) < len(sent)-1 || len(heard) > len(sent) || !slices.EqualFunc(heard, sent[:len(heard)], bytes.Equal) {
			t.Fatal(seed, len(heard), len(sent), heard, sent)
		}
	}
}

// sortedEvents tells those of a plane, by their ticks.
func sortedEvents(p *plane.Plane) []pair.Event {
	l := p.Events()
	slices.SortStableFunc(l, func(a, b pair.Event) int { return a.Tick - b.Tick })
	return l
}
