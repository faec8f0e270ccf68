package biu_test

import (
	"bytes"
	"math"
	"testing"

	"busbar/api"
	"busbar/biu"
	"busbar/compile"
	"busbar/gate"
	"busbar/plan"
	"busbar/wires"
)

func data(words, addr int, from, to []int) plan.Window {
	return plan.Window{Kind: plan.Data, Words: words, Addr: addr, From: from, To: to}
}

var (
	short = plan.Window{Kind: plan.Short}
	ten   = plan.Window{Kind: plan.Gap, Bits: 10}
)

// program tells what a module does of a schedule.
func program(t *testing.T, module int, first, second []plan.Window) compile.Program {
	t.Helper()
	l, code := compile.All(plan.Schedule{Modules: 3, Frames: [2][]plan.Window{first, second}})
	if code != api.OK {
		t.Fatal(code)
	}
	p, code := compile.Load(l[module])
	if code != api.OK {
		t.Fatal(code)
	}
	return p
}

// unit makes one of the side x, that sees lines at once.
func unit(t *testing.T, p compile.Program) *biu.Biu {
	t.Helper()
	b, code := biu.New(false, p, 0)
	if code != api.OK {
		t.Fatal(code)
	}
	return b
}

// joined makes one that is in sync.
func joined(t *testing.T, p compile.Program) *biu.Biu {
	t.Helper()
	b := unit(t, p)
	if code := b.Join(0); code != api.OK {
		t.Fatal(code)
	}
	return b
}

// steps lets so many ticks go by, with the same lines.
func steps(b *biu.Biu, many int, l wires.Lines) {
	for range many {
		b.Step(l, 0, 0)
	}
}

// to lets ticks go by until it is at a place of a slot; all lines are high where a frame's own pulses are.
func to(t *testing.T, b *biu.Biu, slot, place int) {
	t.Helper()
	for range 100000 {
		if s, p := b.Place(); s == slot && p == place {
			return
		}
		b.Step(house(b), 0, 0)
	}
	t.Fatal("it never comes to", slot, place)
}

// house tells how lines stand where all in sync pulse, and nobody sends.
func house(b *biu.Biu) wires.Lines {
	s := b.Slot()
	_, place := b.Place()
	if from, to := s.Pulse(); (s.Kind == plan.Long || s.Kind == plan.Short) && place >= from && place < to {
		return 15
	}
	return 0
}

// TestStates: states by their numbers.
func TestStates(t *testing.T) {
	if biu.Off != 0 || biu.Listen != 1 || biu.Enter != 2 || biu.Sync != 3 || biu.Dead != 4 {
		t.Error(biu.Off, biu.Listen, biu.Enter, biu.Sync, biu.Dead)
	}
}

// TestNew: P22.1.
func TestNew(t *testing.T) {
	p := program(t, 0, nil, nil)
	for _, skew := range []int{-1, 16, math.MinInt, math.MaxInt} {
		if b, code := biu.New(true, compile.Program{}, skew); code != api.ErrArg || b != nil {
			t.Error(skew, code)
		}
	}
	for _, skew := range []int{0, 1, 15} {
		if b, code := biu.New(true, p, skew); code != api.OK || b.State() != biu.Off {
			t.Error(skew, code)
		}
	}
	for _, none := range []compile.Program{{}, {Slots: [2][]plan.Slot{p.Slots[0], nil}}, {Slots: [2][]plan.Slot{nil, p.Slots[1]}}} {
		if b, code := biu.New(false, none, 0); code != api.ErrArg || b != nil {
			t.Error(none, code)
		}
	}
	// What is handed in is not kept.
	b := joined(t, p)
	p.Slots[0][0].Long = 7
	if b.Slot().Long != 200 {
		t.Error(b.Slot())
	}
}

// TestPower: P22.1.
func TestPower(t *testing.T) {
	b := unit(t, program(t, 0, nil, nil))
	b.Power(false)
	if b.State() != biu.Off {
		t.Error(b.State())
	}
	b.Power(true)
	if b.State() != biu.Listen {
		t.Error(b.State())
	}
	if code := b.Join(1); code != api.OK || b.State() != biu.Sync || b.Version() != 1 {
		t.Error(code, b.State())
	}
	b.Play(gate.Role{Pulses: true})
	b.Power(true)
	if b.State() != biu.Sync || !b.Role().Pulses {
		t.Error(b.State())
	}
	b.Power(false)
	if b.State() != biu.Off || b.Version() != 0 || b.Slot() != (plan.Slot{}) || b.Entered() || b.Role().Pulses {
		t.Error(b.State(), b.Version(), b.Slot())
	}
	if s, place := b.Place(); s != -1 || place != 0 {
		t.Error(s, place)
	}
}

// TestJoin: P22.1.
func TestJoin(t *testing.T) {
	b := unit(t, program(t, 0, nil, []plan.Window{short}))
	for _, version := range []int{-1, 2, math.MinInt, math.MaxInt} {
		if code := b.Join(version); code != api.ErrArg || b.State() != biu.Off {
			t.Error(version, code, b.State())
		}
	}
	for version := range 2 {
		if code := b.Join(version); code != api.OK || b.State() != biu.Sync || b.Version() != version || !b.Entered() || b.Entered() {
			t.Error(version, code, b.State())
		}
		if s, place := b.Place(); s != 0 || place != 0 {
			t.Error(s, place)
		}
		if s := b.Slot(); s.Kind != plan.Long || s.Long != 200+40*version {
			t.Error(s)
		}
		steps(b, 60, 0)
		if s, place := b.Place(); s != 0 || place != 60 {
			t.Error(s, place)
		}
	}
	// Delay and runs begin anew: what was seen ahead of Join is no part of a run.
	b, _ = biu.New(false, program(t, 0, nil, nil), 1)
	b.Join(0)
	steps(b, 60, 15)
	b.Join(0)
	steps(b, 1, 15)
	b.Step(0, 0, 0)
	if s, place := b.Place(); s != 0 || place != 2 || b.State() != biu.Sync {
		t.Error(s, place, b.State())
	}
}

// TestNobodyMade: P22.1 and P22.2.
func TestNobodyMade(t *testing.T) {
	for _, b := range []*biu.Biu{nil, {}} {
		b.Power(true)
		b.Power(false)
		b.Play(gate.Role{Sends: true, Words: []byte{1}})
		if code := b.Join(0); code != api.ErrNil {
			t.Error(code)
		}
		if code := b.Join(-1); code != api.ErrNil {
			t.Error(code)
		}
		if b.State() != biu.Off || b.Version() != 0 || b.Slot() != (plan.Slot{}) || b.Entered() || b.Passed(0) || b.Clear() || b.Role().Sends {
			t.Error(b.State())
		}
		if l, opens := b.Intent(); l != 0 || opens {
			t.Error(l, opens)
		}
		if r, ended := b.Step(15, 15, 1); ended || r.Sync || r.Known {
			t.Error(r, ended)
		}
		if s, place := b.Place(); s != -1 || place != 0 {
			t.Error(s, place)
		}
	}
}

// isNone tells whether a result is that of no slot.
func isNone(r biu.Result) bool {
	return r.Slot == -1 && r.Cand == -1 && !r.Sync && !r.Known && !r.Pulsed && len(r.Words) == 0
}

// TestFollowsNone: P22.2, where it is off, or listens.
func TestFollowsNone(t *testing.T) {
	b := unit(t, program(t, 0, nil, nil))
	for _, on := range []bool{false, true} {
		b.Power(on)
		if !isNone(b.Now()) || b.Clear() || b.Passed(0) || b.Entered() || b.Version() != 0 || b.Slot() != (plan.Slot{}) {
			t.Error(on, b.Now())
		}
		if r, ended := b.Step(0, 0, 0); ended || !isNone(r) {
			t.Error(on, r, ended)
		}
		if l, opens := b.Intent(); l != 0 || opens {
			t.Error(on, l, opens)
		}
	}
}

// TestFollows: P22.2 and P22.5, slot by slot.
func TestFollows(t *testing.T) {
	p := program(t, 2, []plan.Window{data(1, 5, []int{0, 1}, []int{2}), ten, short}, nil)
	b := joined(t, p)
	b.Entered()
	tick := 0
	for frame := range 3 {
		for n, slot := range p.Slots[0] {
			if s, place := b.Place(); s != n || place != 0 || b.Slot() != slot || b.Version() != 0 {
				t.Fatal(frame, n, s, place)
			}
			if entered := b.Entered(); entered != (frame > 0 || n > 0) || b.Entered() {
				t.Fatal(frame, n, entered)
			}
			for place := range slot.Long {
				if _, got := b.Place(); got != place {
					t.Fatal(frame, n, place, got)
				}
				// a place that the clock was set to is not passed, nor is that of Join
				if set, _ := slot.Pulse(); tick > 0 && (slot.Kind == plan.Data || place != set+1) && (!b.Passed(place) || b.Passed(place+1) || b.Passed(place-1)) {
					t.Fatal(frame, n, place)
				}
				if now := b.Now(); now.Slot != n || !now.Sync || now.Cand != -1 || now.Known || now.Pulsed {
					t.Fatal(now)
				}
				if !b.Clear() {
					t.Fatal(n, place)
				}
				r, ended := b.Step(house(b), 0, 0)
				tick++
				if last := place == slot.Long-1; ended != last || !last && !isNone(r) || last && (r.Slot != n || !r.Sync || r.Cand != -1) {
					t.Fatal(frame, n, place, r, ended)
				}
			}
		}
	}
	if b.Passed(math.MaxInt) || b.Passed(math.MinInt) {
		t.Error("no place")
	}
}

// TestPlay: P22.2 and P22.3.
func TestPlay(t *testing.T) {
	p := program(t, 0, []plan.Window{data(2, 5, []int{1, 0}, []int{2}), short}, nil)
	for _, y := range []bool{false, true} {
		b, _ := biu.New(y, p, 0)
		b.Join(0)
		to(t, b, 1, 0)
		w := []byte{0xa5, 0x0f}
		role := gate.Role{Sends: true, Cand: 1, Words: w, Pulses: true}
		b.Play(role)
		w[0] = 0
		b.Role().Words[1] = 0
		if r := b.Role(); !r.Sends || r.Cand != 1 || !r.Pulses || !bytes.Equal(r.Words, []byte{0xa5, 0x0f}) {
			t.Fatal(r)
		}
		role.Words = []byte{0xa5, 0x0f}
		s := b.Slot()
		for place := range s.Long {
			l, opens := b.Intent()
			if l != gate.Drives(s, role, y, place) || opens != gate.Opens(s, role, place) {
				t.Fatal(y, place, l, opens)
			}
			partner := gate.Drives(s, role, !y, place)
			b.Step(0, partner, 0)
		}
		if r := b.Role(); r.Sends || r.Pulses || len(r.Words) != 0 || b.State() != biu.Sync {
			t.Error(r, b.State())
		}
		if l, opens := b.Intent(); l != 0 || opens {
			t.Error(l, opens)
		}
	}
}
