package biu_test

import (
	"bytes"
	"testing"

	"busbar/api"
	"busbar/biu"
	"busbar/clock"
	"busbar/compile"
	"busbar/gate"
	"busbar/plan"
	"busbar/serial"
	"busbar/wires"
)

// listening makes one that has heard nothing for so many ticks.
func listening(t *testing.T, p compile.Program, quiet int) *biu.Biu {
	t.Helper()
	b := unit(t, p)
	b.Power(true)
	steps(b, quiet, 0)
	return b
}

// TestListen: P22.4.
func TestListen(t *testing.T) {
	p := program(t, 0, nil, nil)
	for _, c := range []struct {
		quiet, pulse int
		lines        wires.Lines
		version      int // -1: it does not enter
	}{
		{20, 80, 15, 0}, {20, 60, 15, 0}, {20, 59, 15, -1}, {20, 99, 15, 0}, {20, 100, 15, 1}, {20, 120, 15, 1}, {20, 1000, 7, 1}, {19, 80, 15, -1}, {0, 80, 15, -1}, {500, 80, 14, 0}, {20, 80, 3, -1},
	} {
		b := listening(t, p, c.quiet)
		steps(b, c.pulse, c.lines)
		steps(b, 19, 0)
		if b.State() != biu.Listen {
			t.Error(c, b.State())
		}
		if r, ended := b.Step(0, 0, 0); ended || !isNone(r) {
			t.Error(c, r, ended)
		}
		if c.version < 0 {
			if b.State() != biu.Listen {
				t.Error(c, b.State())
			}
			continue
		}
		s, place := b.Place()
		if b.State() != biu.Enter || b.Version() != c.version || s != 0 || place != 160+40*c.version || !b.Entered() {
			t.Error(c, b.State(), b.Version(), s, place)
		}
		if now := b.Now(); now.Slot != 0 || now.Sync {
			t.Error(c, now)
		}
		if l, opens := b.Intent(); l != 0 || opens || b.Clear() {
			t.Error(c, l, opens)
		}
	}
}

// TestListenAgain: P22.4, where what is heard is in pieces, or not what it should be at first.
func TestListenAgain(t *testing.T) {
	p := program(t, 0, nil, nil)
	// A gap of fewer than 20 ticks does not end what is heard; the greatest run of all counts.
	b := listening(t, p, 20)
	steps(b, 60, 15)
	steps(b, 19, 0)
	steps(b, 5, 15)
	steps(b, 20, 0)
	if b.State() != biu.Enter || b.Version() != 0 {
		t.Error(b.State(), b.Version())
	}
	// Something too short, and behind 20 ticks something long enough.
	b = listening(t, p, 20)
	steps(b, 40, 15)
	steps(b, 20, 0)
	if b.State() != biu.Listen {
		t.Error(b.State())
	}
	steps(b, 60, 15)
	steps(b, 20, 0)
	if b.State() != biu.Enter {
		t.Error(b.State())
	}
	// It is powered on while a pulse lasts: that is not heard, the next one is.
	b = listening(t, p, 0)
	steps(b, 70, 15)
	steps(b, 20, 0)
	if b.State() != biu.Listen {
		t.Error(b.State())
	}
	steps(b, 60, 11)
	steps(b, 19, 12)
	b.Step(3, 0, 1)
	if _, place := b.Place(); b.State() != biu.Enter || place != 161 {
		t.Error(b.State(), place)
	}
	// A long run behind 20 quiet ticks is no part of what was heard ahead of them.
	b = listening(t, p, 20)
	steps(b, 110, 15)
	steps(b, 20, 0)
	b.Power(false)
	b.Power(true)
	steps(b, 200, 0)
	if b.State() != biu.Listen {
		t.Error(b.State())
	}
}

// TestEnter: P22.4 and P22.5: it comes to be in sync by the next pulse of a frame, within 18 ticks.
func TestEnter(t *testing.T) {
	p := program(t, 0, []plan.Window{ten, short, ten}, nil)
	for off := -22; off <= 22; off++ {
		b := listening(t, p, 20)
		steps(b, 80, 15)
		steps(b, 20, 0)
		// from place 160 on to where the pulse of the slot 2 comes, moved
		steps(b, 40+200+40+off, 0)
		if s, place := b.Place(); b.State() == biu.Enter && (s != 2 || place != 40+off) {
			t.Fatal(off, s, place)
		}
		b.Step(15, 0, 0)
		s, place := b.Place()
		switch {
		case off >= -18 && off <= 18:
			if b.State() != biu.Sync || s != 2 || place != 41 || b.Now().Sync {
				t.Error(off, b.State(), s, place)
			}
			steps(b, 78, 0)
			if r, ended := b.Step(0, 0, 0); !ended || r.Slot != 2 || r.Sync {
				t.Error(off, r, ended)
			}
			if !b.Now().Sync {
				t.Error(off, b.Now())
			}
		case off < -18:
			if b.State() != biu.Enter {
				t.Error(off, b.State())
			}
			steps(b, 60, 15)
			if b.State() != biu.Listen {
				t.Error(off, b.State())
			}
		default:
			if b.State() != biu.Listen {
				t.Error(off, b.State())
			}
		}
	}
}

// TestSet: P22.4: clocks are set by pulses that come within 6 ticks.
func TestSet(t *testing.T) {
	p := program(t, 0, []plan.Window{ten, short}, nil)
	for slot, begin := range map[int]int{0: 60, 2: 40} {
		for off := -9; off <= 9; off++ {
			b := joined(t, p)
			if slot == 2 {
				to(t, b, 2, 0)
			}
			steps(b, begin+off, 0)
			b.Step(15, 0, 0)
			s, place := b.Place()
			switch {
			case off >= -6 && off <= 6:
				if b.State() != biu.Sync || s != slot || place != begin+1 {
					t.Error(slot, off, b.State(), s, place)
				}
				// a second pulse in the slot does not set it again
				steps(b, 3, 0)
				b.Step(15, 0, 0)
				if _, place := b.Place(); place != begin+5 {
					t.Error(slot, off, place)
				}
				steps(b, 20, 0)
				if b.State() != biu.Sync {
					t.Error(slot, off, b.State())
				}
			case off < -6:
				if b.State() != biu.Sync || place != begin+off+1 {
					t.Error(slot, off, b.State(), place)
				}
				steps(b, 7-off, 15) // it does not rise once more: at 7 behind it listens
				if b.State() != biu.Listen {
					t.Error(slot, off, b.State())
				}
			default:
				if b.State() != biu.Listen {
					t.Error(slot, off, b.State())
				}
			}
		}
	}
	// Where it loses the time, it is at just the tick at which it is more than 6 behind.
	b := joined(t, p)
	steps(b, 67, 0)
	if b.State() != biu.Sync {
		t.Error(b.State())
	}
	if r, ended := b.Step(0, 0, 0); b.State() != biu.Listen || ended || !isNone(r) || !isNone(b.Now()) {
		t.Error(b.State(), r, ended)
	}
	// Counts begin anew, where it comes to listen.
	steps(b, 19, 0)
	steps(b, 80, 15)
	steps(b, 30, 0)
	if b.State() != biu.Listen {
		t.Error(b.State())
	}
}

// send tells how lines stand where a candidate sends words, at a place.
func send(s plan.Slot, cand int, w []byte, place int) wires.Lines {
	return wires.Or(serial.Words(s, cand, w, false, place), serial.Words(s, cand, w, true, place))
}

// TestMessage: P22.2 and P22.4, of what is taken, moved by some ticks, with and without a slip.
func TestMessage(t *testing.T) {
	w := []byte{0xa5, 0x3c}
	p := program(t, 2, []plan.Window{data(2, 5, []int{0, 1}, []int{2}), short}, nil)
	for cand := range 2 {
		for off := -4; off <= 3; off++ {
			for n := range 30 {
				slip, at := n%3-1, 110+n/3
				b := joined(t, p)
				to(t, b, 1, 0)
				s := b.Slot()
				var r biu.Result
				ended := false
				for tick := 0; !ended; tick++ {
					by := 0
					if tick == at {
						by = slip
					}
					if _, place := b.Place(); place == 35+80*cand-off && !b.Clear() {
						t.Fatal("it saw somebody too soon")
					}
					r, ended = b.Step(send(s, cand, w, tick+off), 0, by)
				}
				if !r.Known || r.Cand != cand || !bytes.Equal(r.Words, w) || !r.Sync || r.Pulsed || r.Slot != 1 {
					t.Error(cand, off, slip, r)
				}
			}
		}
	}
}

// TestMessageNone: P22.2 and P22.4, of lines that are not to be read, and of who does not take it.
func TestMessageNone(t *testing.T) {
	w := []byte{0xa5, 0x3c}
	l := []plan.Window{data(2, 5, []int{0}, []int{2}), short}
	for module, want := range map[int]bool{0: false, 1: false, 2: true} {
		b := joined(t, program(t, module, l, nil))
		to(t, b, 1, 0)
		s := b.Slot()
		var r biu.Result
		for place := range s.Long {
			if place == s.Long-1 {
				if now := b.Now(); now.Known != want || now.Cand != 0 || now.Slot != 1 {
					t.Error(module, now)
				}
			}
			r, _ = b.Step(send(s, 0, w, place), 0, 0)
		}
		if r.Known != want || want != bytes.Equal(r.Words, w) || r.Cand != 0 || !r.Sync {
			t.Error(module, r)
		}
	}
	// One line that stands still does not count; a second one does.
	for lines, want := range map[wires.Lines]bool{1: true, 8: true, 3: false, 9: false} {
		b := joined(t, program(t, 2, l, nil))
		to(t, b, 1, 0)
		s := b.Slot()
		var r biu.Result
		for place := range s.Long {
			at := send(s, 0, w, place)
			if place >= 40 && place < 360 {
				at |= lines
			}
			r, _ = b.Step(at, 0, 0)
		}
		if r.Known != want || want != bytes.Equal(r.Words, w) || !want && len(r.Words) != 0 || r.Cand != 0 {
			t.Error(lines, r)
		}
	}
}

// TestPartner: P22.4: who does not drive what it should lets the other one be dead.
func TestPartner(t *testing.T) {
	w := []byte{0xa5}
	p := program(t, 0, []plan.Window{data(1, 5, []int{0}, []int{2}), short}, nil)
	for _, y := range []bool{false, true} {
		for half := -1; half < 16; half++ {
			b, _ := biu.New(y, p, 0)
			b.Join(0)
			to(t, b, 1, 0)
			s, role := b.Slot(), gate.Role{Sends: true, Words: w}
			b.Play(role)
			for place := range s.Long {
				partner := gate.Drives(s, role, !y, place)
				if half >= 0 && place >= 40 && (place-40)/10 == half {
					partner = 0
				}
				r, ended := b.Step(send(s, 0, w, place), partner, 0)
				if dead := half >= 0 && place >= 45+10*half; (b.State() == biu.Dead) != dead || dead && (ended || !isNone(r)) {
					t.Fatal(y, half, place, b.State(), r, ended)
				}
			}
			if half < 0 {
				continue
			}
			if l, opens := b.Intent(); l != 0 || opens || !isNone(b.Now()) || b.Clear() {
				t.Error(l, opens, b.Now())
			}
			steps(b, 1000, 0)
			b.Power(true)
			if b.State() != biu.Dead {
				t.Error(b.State())
			}
			b.Power(false)
			b.Power(true)
			if b.State() != biu.Listen {
				t.Error(b.State())
			}
		}
	}
	// Whoever has no part in sending does not look.
	b := joined(t, p)
	to(t, b, 1, 0)
	for place := range b.Slot().Long {
		b.Step(send(b.Slot(), 0, w, place), 15, 0)
	}
	if b.State() != biu.Sync {
		t.Error(b.State())
	}
}

// TestPulsed: P22.4: a pulse of 10 ticks or more, not too far from where it should be.
func TestPulsed(t *testing.T) {
	p := program(t, 2, []plan.Window{data(1, 5, []int{0}, []int{2}), short}, nil)
	for slot, begin := range map[int]int{1: 280, 3: 40} {
		for _, c := range []struct {
			first, many int
			want        bool
		}{
			{begin, 40, true}, {begin, 10, true}, {begin, 9, false}, {begin - 39, 10, true}, {begin - 40, 10, false}, {begin + 60, 10, true}, {begin + 62, 10, false}, {begin - 39, 9, false},
		} {
			if slot == 3 && c.first < 3 {
				c.first, c.many = 3, 10 // the slot Version begins 40 ticks ahead of its pulse: all that lies in it counts
				c.want = true
			}
			b := joined(t, p)
			to(t, b, slot, 0)
			var r biu.Result
			for place := range b.Slot().Long {
				l := wires.Lines(0)
				if place >= c.first && place < c.first+c.many {
					l = 7
				}
				r, _ = b.Step(l, 0, 0)
			}
			if r.Pulsed != c.want || r.Slot != slot {
				t.Error(slot, c, r)
			}
		}
	}
	// Of other slots it does not count.
	b := joined(t, p)
	for range 100000 {
		r, ended := b.Step(house(b), 0, 0)
		if ended && r.Slot == 0 {
			if r.Pulsed {
				t.Error(r)
			}
			break
		}
	}
}

// TestTurn: P22.5: a pulse in the slot Version is followed by frames of the other version.
func TestTurn(t *testing.T) {
	p := program(t, 2, []plan.Window{ten}, []plan.Window{short, ten})
	last := []int{2, 3}
	for _, enters := range []bool{false, true} {
		b := joined(t, p)
		if enters {
			b = listening(t, p, 20)
			steps(b, 80, 15)
			steps(b, 20, 0)
		}
		for _, version := range []int{0, 1} {
			to(t, b, last[version], 0)
			if (b.State() == biu.Enter) != (enters && version == 0) {
				t.Fatal(enters, version, b.State())
			}
			for place := range 120 {
				l := wires.Lines(0)
				if place >= 40 && place < 80 {
					l = 15
				}
				r, ended := b.Step(l, 0, 0)
				if ended != (place == 119) || ended && (!r.Pulsed || r.Slot != last[version]) {
					t.Fatal(enters, version, place, r, ended)
				}
			}
			if s, place := b.Place(); b.Version() != 1-version || s != 0 || place != 0 || b.Slot().Long != 200+40*(1-version) {
				t.Fatal(enters, version, b.Version(), s, place)
			}
		}
	}
	// A slip at the frame's end is not lost by turning.
	b := joined(t, p)
	to(t, b, 2, 40)
	steps(b, 40, 15)
	steps(b, 39, 0)
	b.Step(0, 0, 1)
	if s, place := b.Place(); b.Version() != 1 || s != 0 || place != 1 {
		t.Error(b.Version(), s, place)
	}
	// Without a pulse the frames stay of the version.
	b = joined(t, p)
	to(t, b, 2, 119)
	b.Step(0, 0, 1)
	if s, place := b.Place(); b.Version() != 0 || s != 0 || place != 1 || !b.Passed(0) || !b.Passed(1) {
		t.Error(b.Version(), s, place)
	}
}

// TestSkew: P22.4: what it sees is seen later.
func TestSkew(t *testing.T) {
	p := program(t, 0, nil, nil)
	for _, skew := range []int{0, 1, 5} {
		b, _ := biu.New(false, p, skew)
		b.Join(0)
		steps(b, 60, 0)
		steps(b, skew, 15)
		if _, place := b.Place(); place != 60+skew {
			t.Error(skew, place)
		}
		b.Step(15, 0, 0)
		if _, place := b.Place(); place != 61 {
			t.Error(skew, place)
		}
	}
}

// wild tells numbers that a number alone decides.
func wild(seed int) func(most int) int {
	x := uint32(seed)*2654435761 + 12345
	return func(most int) int {
		x = x*1664525 + 1013904223
		return int(x>>8) % most
	}
}

// slipping tells a clock's slips, tick by tick: any two are SlipGap ticks apart, or more.
func slipping(next func(int) int) func() int {
	wait := next(4400)
	return func() int {
		wait--
		if wait > 0 {
			return 0
		}
		wait = api.SlipGap + next(3)*next(200)
		return 2*next(2) - 1
	}
}

// TestAlone: P22.6: one alone stays in sync, with what it drives on all lines.
func TestAlone(t *testing.T) {
	gap := plan.Window{Kind: plan.Gap, Bits: 92}
	p := program(t, 0, []plan.Window{gap, gap}, nil) // a span of 200 bits
	for seed := range 6 {
		b := joined(t, p)
		slip := slipping(wild(seed))
		for tick := range 60000 {
			b.Play(gate.Role{Pulses: b.Slot().Kind == plan.Long})
			l := wires.Lines(0)
			if drives, _ := b.Intent(); drives != 0 {
				l = 15
			}
			b.Step(l, 0, slip())
			if b.State() != biu.Sync {
				t.Fatal(seed, tick)
			}
		}
	}
}

// TestTogether: P22.6: units that see the same, at most a tick apart, are at most 3 ticks apart.
func TestTogether(t *testing.T) {
	gap := plan.Window{Kind: plan.Gap, Bits: 92}
	p := program(t, 0, []plan.Window{gap, gap}, nil)
	long := p.Long(0)
	for seed := range 12 {
		next := wild(seed)
		var units []*biu.Biu
		var slips []func() int
		for n := range 5 {
			b, _ := biu.New(n%2 == 0, p, (seed+n)/2%2)
			b.Join(0)
			units, slips = append(units, b), append(slips, slipping(next))
		}
		for tick := range 60000 {
			l := wires.Lines(0)
			for _, b := range units {
				b.Play(gate.Role{Pulses: b.Slot().Kind == plan.Long})
				if drives, _ := b.Intent(); drives != 0 {
					l = 15
				}
			}
			for n, b := range units {
				b.Step(l, 0, slips[n]())
				if b.State() != biu.Sync {
					t.Fatal(seed, tick, n)
				}
			}
			for _, a := range units {
				for _, b := range units {
					apart := clock.Apart(at(a), at(b), long)
					if apart > 3 || apart < -3 {
						t.Fatal(seed, tick, apart)
					}
				}
			}
		}
	}
}

// at tells a unit's place in the frame.
func at(b *biu.Biu) int {
	_, place := b.Place()
	return b.Slot().Start + place
}

// TestAnyProgram: no program, whatever it has, lets a unit panic, or never end.
func TestAnyProgram(t *testing.T) {
	const most = 1<<63 - 1
	numbers := []int{0, 1, -1, 7, 20, 200, 1 << 20, most, -most - 1}
	for seed := range 3000 {
		next := wild(seed)
		var p compile.Program
		for version := range 2 {
			for range 1 + next(3) {
				pick := func() int { return numbers[next(len(numbers))] }
				p.Slots[version] = append(p.Slots[version], plan.Slot{Kind: next(6), Start: pick(), Long: pick(), Words: pick(), Addr: pick(), Many: pick(), Cand: pick(), Take: next(2) == 0})
			}
		}
		b, code := biu.New(next(2) == 0, p, next(16))
		if code != api.OK {
			t.Fatal(code)
		}
		b.Power(true)
		b.Join(next(2))
		for range 300 {
			b.Play(gate.Role{Sends: next(2) == 0, Cand: next(4) - 1, Words: []byte{1, 2}, Pulses: next(2) == 0})
			b.Intent()
			b.Passed(numbers[next(len(numbers))])
			b.Step(wires.Lines(next(256)), wires.Lines(next(256)), next(5)-2)
			b.Now()
			b.Place()
		}
	}
}
