package pair_test

import (
	"bytes"
	"math"
	"slices"
	"testing"

	"busbar/api"
	"busbar/biu"
	"busbar/compile"
	"busbar/fault"
	"busbar/pair"
	"busbar/plan"
	"busbar/store"
	"busbar/wires"
)

func data(words, addr int, from, to []int) plan.Window {
	return plan.Window{Kind: plan.Data, Words: words, Addr: addr, From: from, To: to}
}

// tables tells those of a schedule of so many modules, with one version's windows in both.
func tables(t *testing.T, modules int, l ...plan.Window) [][]byte {
	t.Helper()
	all, code := compile.All(plan.Schedule{Modules: modules, Frames: [2][]plan.Window{l, l}})
	if code != api.OK {
		t.Fatal(code)
	}
	return all
}

// rig is modules on lines, without a plane.
type rig struct {
	pairs  []*pair.Pair
	fault  fault.Fault
	tick   int
	lines  wires.Lines
	drove  []wires.Lines
	change func(tick int, l wires.Lines) wires.Lines // of how lines stand, if any
	slips  func(module, tick int) [2]int
}

// newRig makes one whose modules are all in sync.
func newRig(t *testing.T, modules int, l ...plan.Window) *rig {
	t.Helper()
	r := &rig{}
	for _, b := range tables(t, modules, l...) {
		p := pair.New(b, [2]int{})
		if code := p.Join(0); code != api.OK {
			t.Fatal(code)
		}
		r.pairs = append(r.pairs, p)
	}
	r.drove = make([]wires.Lines, modules)
	return r
}

// step lets a tick go by.
func (r *rig) step() {
	for _, p := range r.pairs {
		p.Ready(r.tick)
	}
	r.lines = 0
	for m, p := range r.pairs {
		r.drove[m] = p.Drive(r.fault, r.tick)
		r.lines |= r.drove[m]
	}
	if r.change != nil {
		r.lines = r.change(r.tick, r.lines)
	}
	for m, p := range r.pairs {
		var slips [2]int
		if r.slips != nil {
			slips = r.slips(m, r.tick)
		}
		p.Step(r.lines, r.tick, slips)
	}
	r.tick++
}

func (r *rig) run(ticks int) {
	for range ticks {
		r.step()
	}
}

// same tells whether two events are alike; a candidate belongs to a message alone.
func same(a, b pair.Event) bool {
	if a.What > pair.Missed {
		a.Cand, b.Cand = 0, 0
	}
	return a.Tick == b.Tick && a.Module == b.Module && a.What == b.What && a.Slot == b.Slot && a.Version == b.Version && a.Since == b.Since && a.Cand == b.Cand && bytes.Equal(a.Words, b.Words)
}

func want(t *testing.T, got []pair.Event, want ...pair.Event) {
	t.Helper()
	if !slices.EqualFunc(got, want, same) {
		t.Errorf("%+v, not %+v", got, want)
	}
}

// TestNumbers: events by their numbers.
func TestNumbers(t *testing.T) {
	for n, what := range []int{pair.Sent, pair.Took, pair.Missed, pair.Synced, pair.Lost, pair.Died, pair.Turned} {
		if what != n+1 {
			t.Error(n, what)
		}
	}
}

// TestNone: P23.1 and P23.5, of a table that is none, and modules that nobody made.
func TestNone(t *testing.T) {
	for _, p := range []*pair.Pair{nil, {}, pair.New(nil, [2]int{}), pair.New([]byte{1}, [2]int{3, -3})} {
		p.Power(true)
		p.Allow(true)
		p.Want(true)
		if code := p.Join(0); code != api.ErrNil {
			t.Error(code)
		}
		if code := p.Join(-5); code != api.ErrNil {
			t.Error(code)
		}
		bad := fault.Fault{Kind: fault.Side, Module: -1, Pattern: []byte{7}}
		for tick := range 400 {
			p.Ready(tick)
			if p.Drive(bad, tick) != 0 {
				t.Error("it drives")
			}
			p.Step(15, tick, [2]int{})
		}
		if p.Module() != -1 || p.Unit(false) != nil || p.Unit(true) != nil || p.InSync() || p.Dead() || p.Memory() != nil || p.Wants() || len(p.Events()) != 0 || !p.Program().Same(compile.Program{}) {
			t.Error(p.Module())
		}
		p.Power(false)
	}
}

// TestNew: P23.1.
func TestNew(t *testing.T) {
	l := tables(t, 3, data(2, 5, []int{0}, []int{1}))
	for m, b := range l {
		p := pair.New(b, [2]int{})
		program, _ := compile.Load(b)
		if p.Module() != m || !p.Program().Same(program) || p.Unit(false).State() != biu.Off || p.Unit(true).State() != biu.Off || p.InSync() || p.Dead() || p.Wants() || len(p.Events()) != 0 || !p.Memory().Same(store.New()) {
			t.Error(m, p.Module())
		}
		if p.Unit(false) == p.Unit(true) {
			t.Error("one unit for both")
		}
		p.Program().Slots[0][0].Long = 1
		if !p.Program().Same(program) {
			t.Error("the program was changed")
		}
	}
}

// TestSkew: P23.1: skews are cut, and each unit has its own.
func TestSkew(t *testing.T) {
	b := tables(t, 2)[0]
	for _, c := range []struct{ skew, late [2]int }{{[2]int{0, 1}, [2]int{0, 1}}, {[2]int{1, 0}, [2]int{1, 0}}, {[2]int{-1, math.MinInt}, [2]int{0, 0}}, {[2]int{math.MaxInt, 16}, [2]int{15, 15}}} {
		p := pair.New(b, c.skew)
		p.Power(true)
		at := func(from, to int, l wires.Lines) {
			for tick := from; tick < to; tick++ {
				p.Step(l, tick, [2]int{})
			}
		}
		at(0, 20, 0)
		at(20, 100, 15)
		for tick := 100; tick < 140; tick++ {
			p.Step(0, tick, [2]int{})
			for u, late := range c.late {
				entered := p.Unit(u == 1).State() == biu.Enter
				// quiet ticks that are seen ahead of the pulse are more by so many, and behind it fewer
				if entered != (tick >= 119+late) {
					t.Fatal(c, tick, u, entered)
				}
			}
		}
	}
}

// TestPower: P23.1.
func TestPower(t *testing.T) {
	r := newRig(t, 2, data(1, 5, []int{0}, []int{1}))
	p := r.pairs[1]
	p.Memory().Write(0, []byte{1, 2, 3})
	p.Memory().Write(63, []byte{4})
	p.Allow(false)
	p.Want(true)
	r.run(50)
	p.Power(false)
	if p.Unit(false).State() != biu.Off || p.Unit(true).State() != biu.Off || p.InSync() || !p.Wants() {
		t.Error(p.Unit(false).State(), p.Unit(true).State())
	}
	if w, good, _ := p.Memory().Read(0, 3); good || !bytes.Equal(w, []byte{1, 2, 3}) || p.Memory().Good(63) || p.Memory().Good(0) {
		t.Error(w, good)
	}
	if p.Drive(fault.Fault{}, 50) != 0 {
		t.Error("it drives")
	}
	p.Power(true)
	if p.Unit(false).State() != biu.Listen || p.Unit(true).State() != biu.Listen {
		t.Error(p.Unit(false).State(), p.Unit(true).State())
	}
	for _, version := range []int{-1, 2, math.MaxInt} {
		if code := p.Join(version); code != api.ErrArg || p.InSync() {
			t.Error(version, code)
		}
	}
	if code := p.Join(1); code != api.OK || !p.InSync() || p.Unit(true).Version() != 1 {
		t.Error(code)
	}
}

// TestPulses: P23.2 and P23.3: all in sync pulse in Long and Short, and nowhere else.
func TestPulses(t *testing.T) {
	l := []plan.Window{data(1, 5, []int{0}, []int{1}), {Kind: plan.Gap, Bits: 5}, {Kind: plan.Short}}
	r := newRig(t, 2, l...)
	r.pairs[0].Allow(false)
	slots := r.pairs[0].Program().Slots[0]
	for range 2 {
		for _, s := range slots {
			from, to := s.Pulse()
			for place := range s.Long {
				r.step()
				pulses := (s.Kind == plan.Long || s.Kind == plan.Short) && place >= from && place < to
				if pulses && (r.drove[0] != 15 || r.drove[1] != 15) || !pulses && r.lines != 0 {
					t.Fatal(s, place, r.drove)
				}
			}
		}
	}
	for m := range 2 {
		if !r.pairs[m].InSync() {
			t.Error(m)
		}
	}
}

// TestSends: P23.2 to P23.4: what is sent is taken, written and noted.
func TestSends(t *testing.T) {
	r := newRig(t, 3, data(2, 5, []int{0}, []int{1}))
	r.pairs[0].Memory().Write(5, []byte{0xa5, 0x3c})
	r.pairs[2].Memory().Write(5, []byte{9, 9})
	r.run(320 + 520)
	want(t, r.pairs[0].Events(), pair.Event{Tick: 230, Module: 0, What: pair.Sent, Slot: 1, Since: 200, Words: []byte{0xa5, 0x3c}})
	want(t, r.pairs[1].Events(), pair.Event{Tick: 719, Module: 1, What: pair.Took, Slot: 1, Since: 200, Words: []byte{0xa5, 0x3c}})
	want(t, r.pairs[2].Events())
	want(t, r.pairs[0].Events())
	if w, good, _ := r.pairs[1].Memory().Read(5, 2); !good || !bytes.Equal(w, []byte{0xa5, 0x3c}) || r.pairs[1].Memory().Good(7) || r.pairs[1].Memory().Good(4) {
		t.Error(w, good)
	}
	if w, _, _ := r.pairs[2].Memory().Read(5, 2); !bytes.Equal(w, []byte{9, 9}) {
		t.Error(w)
	}
}

// TestWordsThen: P23.2: the words are those that the memory has when it is decided, good or not.
func TestWordsThen(t *testing.T) {
	r := newRig(t, 2, data(1, 5, []int{0}, []int{1}))
	r.pairs[0].Memory().Write(5, []byte{1})
	r.run(230)
	r.pairs[0].Memory().Write(5, []byte{2})
	r.pairs[0].Memory().Spoil(5, 1)
	r.step()
	r.pairs[0].Memory().Write(5, []byte{3})
	r.run(400)
	want(t, r.pairs[1].Events(), pair.Event{Tick: 559, Module: 1, What: pair.Took, Slot: 1, Since: 200, Words: []byte{2}})
}

// TestAllow: P23.2: whether it may send counts where the slot begins.
func TestAllow(t *testing.T) {
	for _, c := range []struct {
		at    int
		on    bool
		sends bool
	}{{200, false, false}, {201, false, true}, {200, true, true}, {201, true, false}} {
		r := newRig(t, 2, data(1, 5, []int{0}, []int{1}))
		r.pairs[0].Allow(!c.on)
		r.run(c.at)
		r.pairs[0].Allow(c.on)
		r.run(600 - c.at)
		took := pair.Event{Tick: 559, Module: 1, What: pair.Took, Slot: 1, Since: 200, Words: []byte{0}}
		if !c.sends {
			took = pair.Event{Tick: 559, Module: 1, What: pair.Missed, Slot: 1, Since: 200, Cand: -1}
		}
		want(t, r.pairs[1].Events(), took)
		if sent := len(r.pairs[0].Events()) == 1; sent != c.sends {
			t.Error(c, sent)
		}
	}
}

// TestCandidates: P23.2 and P23.4: the first one that may sends, and no other one.
func TestCandidates(t *testing.T) {
	for silent := range 3 {
		r := newRig(t, 3, data(1, 5, []int{0, 1}, []int{2}))
		for m := range 2 {
			r.pairs[m].Memory().Write(5, []byte{byte(0x10 + m)})
			r.pairs[m].Allow(m >= silent)
		}
		r.pairs[2].Memory().Write(5, []byte{7})
		r.run(700)
		took := pair.Event{Tick: 639, Module: 2, What: pair.Took, Slot: 1, Since: 200, Cand: silent, Words: []byte{byte(0x10 + silent)}}
		if silent == 2 {
			took = pair.Event{Tick: 639, Module: 2, What: pair.Missed, Slot: 1, Since: 200, Cand: -1}
		}
		want(t, r.pairs[2].Events(), took)
		if good := r.pairs[2].Memory().Good(5); good != (silent < 2) {
			t.Error(silent, good)
		}
		for m := range 2 {
			if m == silent {
				want(t, r.pairs[m].Events(), pair.Event{Tick: 230 + 80*m, Module: m, What: pair.Sent, Slot: 1, Since: 200, Cand: m, Words: []byte{byte(0x10 + m)}})
			} else {
				want(t, r.pairs[m].Events())
			}
		}
	}
}

// TestBothClear: P23.2: where one unit saw somebody, or does not take part, nothing is sent.
func TestBothClear(t *testing.T) {
	r := newRig(t, 3, data(1, 5, []int{0, 1}, []int{2}))
	r.pairs[0].Allow(false)
	r.change = func(tick int, l wires.Lines) wires.Lines {
		if tick == 225 {
			return 9 // something is seen, ahead of both
		}
		return l
	}
	r.run(700)
	want(t, r.pairs[1].Events())
	// A unit that is off lets the other one not send.
	for _, y := range []bool{false, true} {
		r = newRig(t, 2, data(1, 5, []int{0}, []int{1}))
		r.pairs[0].Unit(y).Power(false)
		r.run(700)
		for _, e := range r.pairs[0].Events() {
			if e.What == pair.Sent {
				t.Error(y, e)
			}
		}
	}
}

// TestOneClear: P23.2: where one unit alone saw somebody, nothing is sent.
func TestOneClear(t *testing.T) {
	for late := range 2 {
		b := tables(t, 2, data(1, 5, []int{0}, []int{1}))
		// one unit sees lines 5 ticks later, so it is 5 ticks behind the other one
		var skew [2]int
		skew[late] = 5
		p := pair.New(b[0], skew)
		p.Join(0)
		for tick := range 300 {
			p.Ready(tick)
			l := p.Drive(fault.Fault{}, tick)
			if tick >= 60 && tick < 140 {
				l = 15
			}
			if tick == 225 {
				l = 9 // the one ahead sees it, and decides 5 ticks later; the other one has not seen it then
			}
			if ahead, behind := p.Unit(late == 0), p.Unit(late == 1); tick == 230 && (ahead.Clear() || !behind.Clear()) {
				t.Error(late, ahead.Clear(), behind.Clear())
			}
			p.Step(l, tick, [2]int{})
		}
		for _, e := range p.Events() {
			if e.What == pair.Sent {
				t.Error(late, e)
			}
		}
		if !p.InSync() {
			t.Error(late)
		}
	}
}

// TestNotes: P23.2: a note is begun anew where nobody, or the same one, takes part in it, whatever the ticks are.
func TestNotes(t *testing.T) {
	r := newRig(t, 2, data(1, 5, []int{0}, []int{1}))
	for tick := range 2000 {
		l := wires.Lines(0)
		for _, p := range r.pairs {
			p.Ready(7)
		}
		for _, p := range r.pairs {
			l |= p.Drive(fault.Fault{}, 7)
		}
		for _, p := range r.pairs {
			p.Step(l, tick, [2]int{})
		}
	}
	sent, took := r.pairs[0].Events(), r.pairs[1].Events()
	if len(sent) != 3 || len(took) != 3 || sent[2].Since != 7 || took[2].What != pair.Took {
		t.Error(sent, took)
	}
}

// TestStale: P23.2: who begins a slot 50 ticks behind the other one begins its note anew.
func TestStale(t *testing.T) {
	for late, want := range map[int]int{0: 1, 49: 1, 50: 0, 51: 0, 1000: 0, -5: 1} {
		for _, y := range []bool{false, true} {
			p := pair.New(tables(t, 2)[0], [2]int{})
			p.Memory().Write(0, []byte{1})
			p.Unit(y).Join(0)
			p.Ready(100)
			p.Unit(!y).Join(0)
			p.Ready(100 + late)
			for tick := range 200 {
				l := wires.Lines(0)
				if tick >= 60 && tick < 140 {
					l = 15
				}
				p.Step(l, tick, [2]int{})
			}
			// where both took part, the slot Long is over, and a frame went by
			if got := p.Memory().Age(0); got != want {
				t.Error(late, y, got)
			}
		}
	}
}

// TestNotInSync: P23.4: a slot is not over, where a unit was not in sync all the time.
func TestNotInSync(t *testing.T) {
	for _, y := range []bool{false, true} {
		r := newRig(t, 2)
		p := r.pairs[1]
		p.Memory().Write(0, []byte{1})
		r.run(10)
		p.Unit(y).Power(false)
		p.Unit(y).Power(true)
		r.run(190)
		if p.Unit(y).State() != biu.Enter || p.Memory().Age(0) != 0 || r.pairs[0].Unit(y).State() != biu.Sync {
			t.Error(y, p.Unit(y).State(), p.Memory().Age(0))
		}
		if slot, _ := p.Unit(y).Place(); slot != 1 {
			t.Error(y, slot)
		}
	}
}

// TestOnePulsed: P23.4: a pulse that one unit alone saw is enough for a message to be missed, and to turn.
func TestOnePulsed(t *testing.T) {
	for u := range 2 {
		r := newRig(t, 2, data(1, 5, []int{0}, []int{1}))
		r.slips = func(module, tick int) [2]int {
			var slips [2]int
			if module == 1 && tick == 205 {
				slips[u] = -1
			}
			return slips
		}
		// 10 ticks of a pulse end where it just counts, for who is not a tick behind
		r.change = func(tick int, l wires.Lines) wires.Lines {
			if tick >= 200+241 && tick <= 200+250 {
				return 15
			}
			return l
		}
		r.run(600)
		want(t, r.pairs[1].Events(), pair.Event{Tick: 560, Module: 1, What: pair.Missed, Slot: 1, Since: 200, Cand: -1})

		r = newRig(t, 2)
		r.pairs[1].Want(true)
		r.slips = func(module, tick int) [2]int {
			var slips [2]int
			if module == 1 && tick == 202 {
				slips[u] = -1
			}
			return slips
		}
		r.change = func(tick int, l wires.Lines) wires.Lines {
			if tick >= 200 && tick < 320 {
				l = 0
			}
			if tick >= 201 && tick <= 210 {
				return 15
			}
			return l
		}
		r.run(340)
		if r.pairs[1].Wants() || r.pairs[1].Unit(u == 1).Version() != 0 || r.pairs[1].Unit(u == 0).Version() != 1 {
			t.Error(u, r.pairs[1].Wants())
		}
		want(t, r.pairs[1].Events(), pair.Event{Tick: 320, Module: 1, What: pair.Turned, Slot: 1, Since: 200})
	}
}

// TestVeto: P23.2 and P23.4: who could not read a message pulses, and nobody takes it.
func TestVeto(t *testing.T) {
	r := newRig(t, 3, data(1, 5, []int{0}, []int{1, 2}))
	for _, p := range r.pairs {
		p.Memory().Write(5, []byte{0x5a})
	}
	// what module 2 sees is spoilt on two lines: it alone gets other lines
	spoil := func(l wires.Lines) wires.Lines {
		if r.tick >= 300 && r.tick < 310 {
			return l ^ 3
		}
		return l
	}
	for range 600 {
		for _, p := range r.pairs {
			p.Ready(r.tick)
		}
		r.lines = 0
		for m, p := range r.pairs {
			r.drove[m] = p.Drive(r.fault, r.tick)
			r.lines |= r.drove[m]
		}
		for _, y := range []bool{false, true} {
			if pulses := r.pairs[2].Unit(y).Role().Pulses; r.tick >= 200 && r.tick < 560 && pulses != (r.tick >= 460) {
				t.Fatal(r.tick, y, pulses)
			}
		}
		if in := r.tick >= 480 && r.tick < 520; in && r.drove[2] != 15 || !in && r.tick >= 440 && r.tick < 560 && r.drove[2] != 0 {
			t.Fatal(r.tick, r.drove)
		}
		for m, p := range r.pairs {
			l := r.lines
			if m == 2 {
				l = spoil(l)
			}
			p.Step(l, r.tick, [2]int{})
		}
		r.tick++
	}
	for m := 1; m < 3; m++ {
		want(t, r.pairs[m].Events(), pair.Event{Tick: 559, Module: m, What: pair.Missed, Slot: 1, Since: 200, Cand: -1})
		if r.pairs[m].Memory().Good(5) {
			t.Error(m)
		}
		if w, _, _ := r.pairs[m].Memory().Read(5, 1); w[0] != 0x5a {
			t.Error(m, w)
		}
	}
}

// TestOneUnitKnows: P23.4 and P23.6: words that one unit alone knows are taken, and nobody pulses.
func TestOneUnitKnows(t *testing.T) {
	b := tables(t, 2, data(1, 5, []int{0}, []int{1}))
	for blind := range 2 {
		sender := pair.New(b[0], [2]int{})
		sender.Join(0)
		sender.Memory().Write(5, []byte{0x77})
		taker := pair.New(b[1], [2]int{})
		taker.Join(0)
		for tick := range 600 {
			sender.Ready(tick)
			taker.Ready(tick)
			l := sender.Drive(fault.Fault{}, tick) | taker.Drive(fault.Fault{}, tick)
			if tick >= 480 && tick < 520 && l != 0 {
				t.Fatal("somebody pulses")
			}
			sender.Step(l, tick, [2]int{})
			// one unit slips far enough to read nothing that is right, and comes back
			var slips [2]int
			if tick >= 250 && tick < 260 {
				slips[blind] = 1
			}
			if tick >= 460 && tick < 470 {
				slips[blind] = -1
			}
			taker.Step(l, tick, slips)
		}
		want(t, taker.Events(), pair.Event{Tick: 559, Module: 1, What: pair.Took, Slot: 1, Since: 200, Words: []byte{0x77}})
	}
}

// TestFrame: P23.4: a frame goes by for the memory where the slot Long is over.
func TestFrame(t *testing.T) {
	r := newRig(t, 2)
	r.pairs[0].Memory().Write(0, []byte{1})
	for frame := range 4 {
		r.run(199)
		if got := r.pairs[0].Memory().Age(0); got != frame {
			t.Error(frame, got)
		}
		r.step()
		if got := r.pairs[0].Memory().Age(0); got != frame+1 {
			t.Error(frame, got)
		}
		r.run(120)
	}
}

// TestTurn: P23.2 and P23.4: who asks for the other version pulses in the slot Version, and all follow.
func TestTurn(t *testing.T) {
	r := newRig(t, 2)
	r.run(150)
	r.pairs[1].Want(true)
	if !r.pairs[1].Wants() || r.pairs[0].Wants() {
		t.Error("wants")
	}
	r.run(50)
	for place := range 120 {
		r.step()
		if in := place >= 40 && place < 80; in && r.lines != 15 || !in && r.lines != 0 || r.drove[0] != 0 {
			t.Fatal(place, r.drove)
		}
	}
	for m, p := range r.pairs {
		want(t, p.Events(), pair.Event{Tick: 319, Module: m, What: pair.Turned, Slot: 1, Since: 200, Cand: -1})
		if p.Wants() || p.Unit(false).Version() != 1 || p.Unit(true).Version() != 1 {
			t.Error(m, p.Wants())
		}
	}
	r.run(360)
	for m, p := range r.pairs {
		want(t, p.Events())
		if p.Unit(false).Version() != 1 {
			t.Error(m)
		}
	}
	// What is asked once the slot began counts for the next frame.
	r.run(241)
	r.pairs[0].Want(true)
	r.run(119)
	want(t, r.pairs[0].Events())
	r.run(360)
	want(t, r.pairs[0].Events(), pair.Event{Tick: r.tick - 1, Module: 0, What: pair.Turned, Slot: 1, Version: 1, Since: r.tick - 120, Cand: -1})
}

// TestStates: P23.4: Synced, Lost and Died are noted.
func TestStates(t *testing.T) {
	r := newRig(t, 2)
	r.pairs[1].Power(false)
	r.pairs[1].Power(true)
	r.run(700)
	// it hears the long pulse of the first frame, and is set by that of the second one
	want(t, r.pairs[1].Events(), pair.Event{Tick: 380, Module: 1, What: pair.Synced, Slot: 0, Cand: -1})
	if !r.pairs[1].InSync() {
		t.Error("not in sync")
	}
	// lines that are low let all lose the time: at 67 behind the frame's begin
	r.change = func(int, wires.Lines) wires.Lines { return 0 }
	r.run(100)
	for m, p := range r.pairs {
		want(t, p.Events(), pair.Event{Tick: 707, Module: m, What: pair.Lost, Slot: -1, Cand: -1})
		if p.InSync() || p.Dead() {
			t.Error(m)
		}
	}
}

// TestDied: P23.3, P23.4 and P23.6: a unit that does otherwise is not let drive on.
func TestDied(t *testing.T) {
	for _, y := range []bool{false, true} {
		r := newRig(t, 2, data(1, 5, []int{0}, []int{1}))
		r.fault = fault.Fault{Kind: fault.Side, Module: 0, Y: y, Pattern: []byte{7}}
		for range 600 {
			r.step()
			// what the faulty side drives comes to the lines just where the other one lets it
			if one := r.pairs[0].Dead(); one != (r.tick > 245) || (r.pairs[0].Unit(y).State() == biu.Dead) != (r.tick > 255) {
				t.Fatal(y, r.tick, one)
			}
			if part := r.drove[0].Side(y); part != 0 && !(r.tick-1 >= 56 && r.tick-1 < 144) && !(r.tick-1 >= 236 && r.tick-1 <= 245) {
				t.Fatal(y, r.tick-1, r.drove)
			}
		}
		p := r.pairs[0]
		if !p.Dead() || p.InSync() || p.Unit(!y).State() != biu.Dead || p.Unit(y).State() != biu.Dead {
			t.Error(y, p.Unit(false).State(), p.Unit(true).State())
		}
		want(t, p.Events(),
			pair.Event{Tick: 230, Module: 0, What: pair.Sent, Slot: 1, Since: 200, Words: []byte{0}},
			pair.Event{Tick: 245, Module: 0, What: pair.Lost, Slot: 1, Cand: -1},
			pair.Event{Tick: 245, Module: 0, What: pair.Died, Slot: 1, Cand: -1},
			// the faulty side's unit sees that its partner drives nothing any more, half a bit later
			pair.Event{Tick: 255, Module: 0, What: pair.Died, Slot: -1, Cand: -1})
		if e := r.pairs[1].Events(); len(e) != 1 || e[0].What != pair.Missed {
			t.Error(e)
		}
	}
}

// TestDrive: P23.3, of all that a faulty side may do, while the module pulses, and while it does nothing.
func TestDrive(t *testing.T) {
	for b := range 16 {
		for _, y := range []bool{false, true} {
			r := newRig(t, 2)
			f := fault.Fault{Kind: fault.Side, Module: 1, Y: y, Pattern: []byte{byte(b)}}
			own, other := wires.Lines(b&3), wires.Pulse(!y)
			if y {
				own <<= 2
			}
			r.run(100)
			r.pairs[1].Ready(100)
			lines := wires.Lines(15)
			if b&8 == 0 {
				lines = own // the healthy side lets it, within its pulse
				if b&4 != 0 {
					lines |= other
				}
			}
			if got := r.pairs[1].Drive(f, 100); got != lines {
				t.Error(b, y, got, lines)
			}
			if got := r.pairs[0].Drive(f, 100); got != 15 {
				t.Error(b, y, got)
			}
			r.run(70)
			if got := r.pairs[1].Drive(f, 170); got != 0 {
				t.Error(b, y, got)
			}
		}
	}
}

// TestUnlikeTicks: no ticks, whatever they are, let a module panic.
func TestUnlikeTicks(t *testing.T) {
	p := newRig(t, 2, data(1, 5, []int{0}, []int{1})).pairs[0]
	for _, tick := range []int{math.MinInt, math.MaxInt, 0, -1, math.MaxInt, math.MinInt} {
		for range 300 {
			p.Ready(tick)
			l := p.Drive(fault.Fault{}, tick)
			p.Step(wires.Or(l), tick, [2]int{math.MaxInt, math.MinInt})
		}
	}
}
