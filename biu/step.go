package biu

import (
	"busbar/api"
	"busbar/major"
	"busbar/plan"
	"busbar/serial"
	"busbar/wires"
)

const (
	silence   = 20           // ticks without a run, ahead of what is heard, and behind it
	longPulse = 60           // ticks of a long pulse, at least
	longOther = 100          // ticks of one of version 1, at least
	farther   = 3 * api.Near // ticks that a pulse may come off its place, for who enters
	around    = 30           // ticks ahead of a slot's pulse, and behind it, in which one is seen
	seenRun   = 10           // ticks of such a pulse, at least
)

// none is what there is of a slot, where there is none.
func none() Result { return Result{Slot: -1, Cand: -1} }

// Now tells what it has of the slot so far.
func (b *Biu) Now() Result {
	if !b.follows() {
		return none()
	}
	r := Result{Slot: b.slot, Sync: b.whole, Cand: b.watch.Cand(), Pulsed: b.pulsed}
	if r.Cand >= 0 && r.Cand < len(b.shifts) {
		r.Words, r.Known = major.Message(b.shifts[r.Cand])
	}
	return r
}

// Step lets a tick go by: how lines stand, what the partner drives, and a slip; it tells what it has of a slot that ended, and whether one did.
func (b *Biu) Step(l, partner wires.Lines, slip int) (r Result, ended bool) {
	if b.State() == Off {
		return none(), false
	}
	defer func() { r, ended = b.tick(slip) }()
	seen := b.late.See(l)
	b.runs.See(seen)
	switch b.state {
	case Listen:
		b.listen()
	case Enter, Sync:
		b.follow(seen, partner)
	}
	return none(), false
}

// listen takes in a tick, while it listens for a long pulse.
func (b *Biu) listen() {
	if run := b.runs.Run(); run > 0 {
		if b.quiet >= silence {
			b.heard, b.peak = true, 0
		}
		b.quiet = 0
		b.peak = max(b.peak, run)
		return
	}
	b.quiet++
	if b.quiet != silence {
		return
	}
	if b.heard && b.peak >= longPulse {
		b.enter()
	}
	b.heard = false
}

// enter lets it follow frames from the long pulse on that it heard: where the 20th tick behind that is.
func (b *Biu) enter() {
	version := 0
	if b.peak >= longOther {
		version = 1
	}
	first := b.program.Slots[version][0]
	_, end := first.Pulse()
	c, code := b.clockAt(version, first.Start+end+silence-1)
	if code != api.OK {
		return
	}
	b.state, b.version, b.clock = Enter, version, c
	b.begin(0)
	b.set = true
}

// lose lets it listen.
func (b *Biu) lose() { b.state, b.ear = Listen, ear{} }

// follow takes in a tick, while it follows frames.
func (b *Biu) follow(seen, partner wires.Lines) {
	switch s := b.Slot(); s.Kind {
	case plan.Long, plan.Short:
		b.setBy(s)
	case plan.Data:
		if b.state == Sync {
			b.pulse(s)
			b.message(s, seen, partner)
		}
	case plan.Version:
		b.pulse(s)
	}
}

// setBy sets its clock by a pulse that comes near its place, or loses it where none came.
func (b *Biu) setBy(s plan.Slot) {
	if b.set {
		return
	}
	near := api.Near
	if b.state == Enter {
		near = farther
	}
	from, _ := s.Pulse()
	switch behind := b.place() - from; {
	case behind > near:
		b.lose()
	case behind >= -near && b.runs.Rose():
		b.clock.Set(s.Start + from)
		b.set, b.state = true, Sync
	}
}

// message takes in a tick of a message: who sends it, what its lines say, and whether the partner drives what it should.
func (b *Biu) message(s plan.Slot, seen, partner wires.Lines) {
	own := b.place()
	b.watch.See(own, seen)
	for _, place := range [2]int{own - 1, own} {
		if !b.Passed(place) {
			continue
		}
		for cand, words := range b.shifts {
			if bit, second, is := serial.Look(s, cand, place); is {
				words.Put(bit, second, seen)
			}
		}
		b.check.See(s, b.role, !b.y, place, partner)
	}
	if b.check.Bad() {
		b.state = Dead
	}
}

// pulse takes in a tick of a slot in which somebody may pulse.
func (b *Biu) pulse(s plan.Slot) {
	from, to := s.Pulse()
	place := b.place()
	if place >= from-around && place < to+around && b.runs.Run() >= seenRun {
		b.pulsed = true
	}
}

// tick lets its clock tick, and tells what it has of a slot that ended by that.
func (b *Biu) tick(slip int) (Result, bool) {
	if !b.follows() {
		return none(), false
	}
	frames := b.clock.Frame()
	b.clock.Tick(slip)
	// Behind the last slot the clock is in the next frame.
	if b.clock.Frame() == frames && b.place() < b.Slot().Long {
		return none(), false
	}
	r := b.Now()
	if next := b.slot + 1; next < len(b.program.Slots[b.version]) {
		b.begin(next)
	} else {
		b.turn()
	}
	return r, true
}

// turn begins a frame: of the other version, where a pulse was seen in the last slot.
func (b *Biu) turn() {
	if b.pulsed {
		version := 1 - b.version
		c, code := b.clockAt(version, b.clock.Pos())
		if code != api.OK {
			b.lose()
			return
		}
		b.version, b.clock = version, c
	}
	b.begin(0)
}
