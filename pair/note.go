package pair

import (
	"slices"

	"busbar/active"
	"busbar/api"
	"busbar/biu"
	"busbar/gate"
	"busbar/plan"
	"busbar/wires"
)

const (
	tooOld = 50 // ticks behind which a note is not for who begins its slot now
	judge  = 20 // ticks ahead of a slot's pulse at which it is looked whether to pulse against it
)

// note is what both units of a module have of a slot together.
type note struct {
	tick    int
	parts   [2]bool // who takes part
	done    [2]bool // whose slot ended
	results [2]biu.Result
	sends   bool // it sends, if nobody does ahead of it
	asks    bool // it asks for the other version
	decided bool
	yes     bool // that it sends was decided
	words   []byte
}

// stale tells whether it was begun too many ticks ago; ticks are held against each other as unsigned ones, as one less the other could leave an int.
func (n *note) stale(tick int) bool {
	return tick > n.tick && uint(tick)-uint(n.tick) >= tooOld
}

// both tells whether both units are so.
func both(l [2]bool) bool { return l[0] && l[1] }

// Ready lets its units begin what is next.
func (p *Pair) Ready(tick int) {
	if !p.is() {
		return
	}
	p.each(func(u int) {
		begun := p.units[u].Entered()
		if p.units[u].State() != biu.Sync {
			return
		}
		if begun {
			p.begin(u, tick)
		}
		p.later(u, tick)
	})
}

// here tells the note of the slot in which a unit is.
func (p *Pair) here(u int) *note {
	slot, _ := p.units[u].Place()
	return &p.notes[p.units[u].Version()][slot]
}

// begin lets a unit that began a slot take part in its note.
func (p *Pair) begin(u, tick int) {
	slot, n := p.units[u].Slot(), p.here(u)
	if n.parts[u] || !n.parts[1-u] || n.stale(tick) {
		*n = note{tick: tick, sends: p.may && slot.Cand >= 0, asks: p.wants}
	}
	n.parts[u] = true
	pulses := slot.Kind == plan.Long || slot.Kind == plan.Short || slot.Kind == plan.Version && n.asks
	p.units[u].Play(gate.Role{Pulses: pulses})
}

// later lets a unit do what comes within a message's slot: decide whether to send, and pulse against what nobody knows.
func (p *Pair) later(u, tick int) {
	unit := p.units[u]
	slot, n := unit.Slot(), p.here(u)
	if slot.Kind != plan.Data || !n.parts[u] {
		return
	}
	if n.sends && unit.Passed(active.Decides(slot, slot.Cand)) {
		if !n.decided {
			p.decide(u, n, tick)
		}
		if n.yes {
			unit.Play(gate.Role{Sends: true, Cand: slot.Cand, Words: n.words})
		}
	}
	pulse, _ := slot.Pulse()
	if slot.Take && both(n.parts) && unit.Passed(pulse-judge) && p.unknown() {
		r := unit.Role()
		r.Pulses = true
		unit.Play(r)
	}
}

// decide decides for both units whether they send, and which words.
func (p *Pair) decide(u int, n *note, tick int) {
	n.decided = true
	if !both(n.parts) || !p.units[0].Clear() || !p.units[1].Clear() {
		return
	}
	slot := p.units[u].Slot()
	words, _, code := p.memory.Read(slot.Addr, slot.Words)
	if code != api.OK {
		return
	}
	n.yes, n.words = true, words
	number, _ := p.units[u].Place()
	p.note(Event{Tick: tick, What: Sent, Slot: number, Version: p.units[u].Version(), Since: n.tick, Cand: slot.Cand, Words: slices.Clone(words)})
}

// unknown tells whether a unit saw somebody send, and neither of them knows the words.
func (p *Pair) unknown() bool {
	seen, known := false, false
	p.each(func(u int) {
		r := p.units[u].Now()
		seen = seen || r.Cand >= 0
		known = known || r.Known
	})
	return seen && !known
}

// note notes an event, as its own.
func (p *Pair) note(e Event) {
	e.Module = p.program.Module
	p.events = append(p.events, e)
}

// Step lets a tick go by: how lines stand, and both slips.
func (p *Pair) Step(l wires.Lines, tick int, slips [2]int) {
	if !p.is() {
		return
	}
	inSync := p.InSync()
	var dead [2]bool
	p.each(func(u int) {
		unit := p.units[u]
		dead[u] = unit.State() == biu.Dead
		version := unit.Version()
		if r, ended := unit.Step(l, p.drove[1-u], slips[u]); ended {
			p.end(u, version, r, tick)
		}
	})
	switch now := p.InSync(); {
	case now && !inSync:
		p.state(Synced, tick)
	case inSync && !now:
		p.state(Lost, tick)
	}
	p.each(func(u int) {
		if !dead[u] && p.units[u].State() == biu.Dead {
			p.state(Died, tick)
		}
	})
}

// state notes how it came to be, where x is, or y, if x is nowhere.
func (p *Pair) state(what, tick int) {
	unit := p.units[0]
	if slot, _ := unit.Place(); slot < 0 {
		unit = p.units[1]
	}
	slot, _ := unit.Place()
	p.note(Event{Tick: tick, What: what, Slot: slot, Version: unit.Version(), Cand: -1})
}

// end takes in that a unit's slot ended; where those of both have, and both were in sync, the slot is over.
func (p *Pair) end(u, version int, r biu.Result, tick int) {
	n := &p.notes[version][r.Slot]
	if !n.parts[u] {
		return
	}
	n.done[u], n.results[u] = true, r
	if !both(n.done) {
		return
	}
	over := *n
	*n = note{}
	if over.results[0].Sync && over.results[1].Sync {
		p.over(over, version, tick)
	}
}

// over does what is to be done behind a slot.
func (p *Pair) over(n note, version, tick int) {
	x, y := n.results[0], n.results[1]
	slot := p.program.Slots[version][x.Slot]
	pulsed := x.Pulsed || y.Pulsed
	e := Event{Tick: tick, Slot: x.Slot, Version: version, Since: n.tick, Cand: -1}
	switch {
	case slot.Kind == plan.Long:
		p.memory.Frame()
	case slot.Kind == plan.Version && pulsed:
		p.wants = false
		e.What = Turned
		p.note(e)
	case slot.Kind == plan.Data && slot.Take:
		r := x
		if !x.Known {
			r = y
		}
		if !r.Known || pulsed || p.memory.Write(slot.Addr, r.Words) != api.OK {
			p.memory.Spoil(slot.Addr, slot.Words)
			e.What = Missed
		} else {
			e.What, e.Cand, e.Words = Took, r.Cand, r.Words
		}
		p.note(e)
	}
}
