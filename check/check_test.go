package check_test

import (
	"testing"

	"busbar/check"
	"busbar/gate"
	"busbar/plan"
	"busbar/serial"
	"busbar/wires"
)

// slot is a message of so many words, of two candidates.
func slot(words int) plan.Slot {
	w := plan.Window{Kind: plan.Data, Words: words, From: []int{0, 1}}
	return plan.View(plan.Schedule{Frames: [2][]plan.Window{{w}}}, 0, 0)[1]
}

// go through a slot, with what the partner drives at each place.
func look(c *check.Check, s plan.Slot, r gate.Role, y bool, drives func(place int) wires.Lines) {
	for place := range s.Long {
		c.See(s, r, y, place, drives(place))
	}
}

func nothing(int) wires.Lines { return 0 }

// TestNew: P19.1.
func TestNew(t *testing.T) {
	c := check.New()
	if c.Bad() || c.Looks() != 0 || c.Wrong() != 0 {
		t.Error(c.Bad(), c.Looks(), c.Wrong())
	}
	look(c, slot(1), gate.Role{Sends: true, Words: []byte{1}}, true, nothing)
	if !c.Bad() || c.Looks() != 16 || c.Wrong() != 16 {
		t.Error(c.Bad(), c.Looks(), c.Wrong())
	}
	c.Clear()
	if c.Bad() || c.Looks() != 0 || c.Wrong() != 0 {
		t.Error(c.Bad(), c.Looks(), c.Wrong())
	}
	look(c, slot(1), gate.Role{Sends: true, Words: []byte{1}}, true, nothing)
	if c.Looks() != 16 {
		t.Error(c.Looks())
	}
	for _, c := range []*check.Check{nil, {}} {
		look(c, slot(1), gate.Role{Sends: true, Words: []byte{1}}, true, nothing)
		c.Clear()
		if c.Bad() || c.Looks() != 0 || c.Wrong() != 0 {
			t.Error(c.Bad(), c.Looks(), c.Wrong())
		}
	}
}

// TestSee: P19.2 and P19.3, of all lines at each place.
func TestSee(t *testing.T) {
	s := slot(2)
	w := []byte{0xa5, 0x01}
	for _, y := range []bool{false, true} {
		for cand := -1; cand < 3; cand++ {
			r := gate.Role{Sends: true, Cand: cand, Words: w}
			for place := -5; place < s.Long+5; place++ {
				_, _, looked := serial.Look(s, cand, place)
				for l := range wires.Lines(16) {
					c := check.New()
					c.See(s, r, y, place, l)
					right := l == serial.Words(s, cand, w, y, place)
					looks, wrong := 0, 0
					if looked {
						looks = 1
						if !right {
							wrong = 1
						}
					}
					if c.Looks() != looks || c.Wrong() != wrong || c.Bad() != (wrong > 0) {
						t.Fatal(y, cand, place, l, c.Looks(), c.Wrong())
					}
				}
			}
		}
	}
	for _, r := range []gate.Role{{Words: w}, {Pulses: true, Words: w}} {
		c := check.New()
		look(c, s, r, true, nothing)
		if c.Looks() != 0 {
			t.Error(r, c.Looks())
		}
	}
	c := check.New()
	look(c, plan.Slot{Kind: plan.Short, Long: 120, Many: 1, Words: 2}, gate.Role{Sends: true, Words: w}, true, nothing)
	if c.Looks() != 0 {
		t.Error(c.Looks())
	}
}

// TestPartner: P19.4.
func TestPartner(t *testing.T) {
	s := slot(3)
	r := gate.Role{Sends: true, Cand: 1, Words: []byte{0x00, 0xff, 0x96}}
	for _, y := range []bool{false, true} {
		for apart := -4; apart <= 4; apart++ {
			c := check.New()
			look(c, s, r, y, func(place int) wires.Lines { return gate.Drives(s, r, y, place+apart) })
			if c.Bad() || c.Looks() != 48 {
				t.Error(y, apart, c.Wrong(), c.Looks())
			}
			for half := range 48 {
				c := check.New()
				look(c, s, r, y, func(place int) wires.Lines {
					l := gate.Drives(s, r, y, place+apart)
					if (place+apart-120)/10 == half && place+apart >= 120 {
						l ^= wires.Pulse(y) // the other level
					}
					return l
				})
				if !c.Bad() || c.Wrong() != 1 {
					t.Error(y, apart, half, c.Wrong())
				}
				c = check.New()
				look(c, s, r, y, func(place int) wires.Lines {
					if (place+apart-120)/10 == half && place+apart >= 120 {
						return 0
					}
					return gate.Drives(s, r, y, place+apart)
				})
				if !c.Bad() {
					t.Error(y, apart, half)
				}
			}
		}
	}
}
