package gate_test

import (
	"math"
	"testing"

	"busbar/gate"
	"busbar/plan"
	"busbar/serial"
	"busbar/wires"
)

// slots are some of all kinds.
func slots() []plan.Slot {
	s := plan.Schedule{Frames: [2][]plan.Window{{
		{Kind: plan.Data, Words: 1, From: []int{0}}, {Kind: plan.Gap, Bits: 6}, {Kind: plan.Short}, {Kind: plan.Data, Words: 2, From: []int{0, 1, 2, 3}},
	}}}
	return append(plan.View(s, 0, 0), plan.Slot{Kind: plan.Long, Long: 240}, plan.Slot{Kind: 9, Long: 300, Many: 1, Words: 1})
}

// roles are all that one may have, of two words.
func roles() []gate.Role {
	var l []gate.Role
	for cand := -1; cand < 5; cand++ {
		for n := range 4 {
			l = append(l, gate.Role{Sends: n&1 != 0, Cand: cand, Words: []byte{0xa5, 0x0f}, Pulses: n&2 != 0})
		}
	}
	return l
}

// TestDrives: P18.1.
func TestDrives(t *testing.T) {
	for _, s := range slots() {
		for _, r := range roles() {
			for place := -10; place < s.Long+10; place++ {
				for _, y := range []bool{false, true} {
					want := wires.Lines(0)
					if r.Sends {
						want |= serial.Words(s, r.Cand, r.Words, y, place)
					}
					if r.Pulses {
						want |= serial.Pulse(s, y, place)
					}
					if got := gate.Drives(s, r, y, place); got != want {
						t.Fatal(s, r, place, y, got, want)
					}
				}
			}
		}
	}
}

// times tells at which places from -100 on somebody's times are.
func times(s plan.Slot, r gate.Role) map[int]bool {
	in := map[int]bool{}
	if r.Sends && s.Kind == plan.Data && r.Cand >= 0 && r.Cand < s.Many {
		for place := range 160 * s.Words {
			in[40+80*r.Cand+place] = true
		}
	}
	if from, to := s.Pulse(); r.Pulses {
		for place := from; place < to; place++ {
			in[place] = true
		}
	}
	return in
}

// TestOpens: P18.2.
func TestOpens(t *testing.T) {
	if gate.Wide != 4 {
		t.Error(gate.Wide)
	}
	short := plan.Slot{Kind: plan.Short, Long: 120}
	for place := range 120 {
		if got := gate.Opens(short, gate.Role{Pulses: true}, place); got != (place >= 36 && place <= 83) {
			t.Error(place, got)
		}
	}
	for _, s := range slots() {
		for _, r := range roles() {
			in := times(s, r)
			for place := -20; place < s.Long+20; place++ {
				want := false
				for near := place - 4; near <= place+4; near++ {
					want = want || in[near]
				}
				if got := gate.Opens(s, r, place); got != want {
					t.Fatal(s, r, place, got)
				}
			}
			for _, place := range []int{math.MinInt, math.MaxInt} {
				if gate.Opens(s, r, place) {
					t.Error(s, r, place)
				}
			}
		}
	}
	// Words of a role that are fewer than the slot's do not count for its times; a slot without words has none.
	one := slots()[1]
	if !gate.Opens(one, gate.Role{Sends: true}, 100) || gate.Opens(plan.Slot{Kind: plan.Data, Many: 1, Long: 200}, gate.Role{Sends: true}, 40) {
		t.Error("words of the slot")
	}
}

// TestAlone: P18.3.
func TestAlone(t *testing.T) {
	for _, s := range slots() {
		for _, r := range roles() {
			for x := -10; x < s.Long+10; x += 3 {
				for y := x - 12; y <= x+12; y++ {
					want := wires.Lines(0)
					if gate.Opens(s, r, y) {
						want |= gate.Drives(s, r, false, x)
					}
					if gate.Opens(s, r, x) {
						want |= gate.Drives(s, r, true, y)
					}
					if got := gate.Alone(s, r, x, y); got != want {
						t.Fatal(s, r, x, y, got, want)
					}
				}
			}
		}
	}
	r := gate.Role{Pulses: true}
	short := plan.Slot{Kind: plan.Short, Long: 120}
	if gate.Alone(short, r, 40, 36) != 3 || gate.Alone(short, r, 40, 35) != 0 || gate.Alone(short, r, 35, 40) != 0 || gate.Alone(short, r, 50, 60) != 15 {
		t.Error(gate.Alone(short, r, 40, 36), gate.Alone(short, r, 40, 35), gate.Alone(short, r, 35, 40))
	}
}

// TestNear: P18.4.
func TestNear(t *testing.T) {
	for _, s := range slots() {
		for _, r := range roles() {
			in := times(s, r)
			for place := -20; place < s.Long+20; place++ {
				for apart := -4; apart <= 4; apart++ {
					if in[place] && !gate.Opens(s, r, place+apart) {
						t.Fatal(s, r, place, apart)
					}
				}
				far := true
				for near := place - 4; near <= place+4; near++ {
					far = far && !in[near]
				}
				if far && (gate.Drives(s, r, false, place) != 0 || gate.Drives(s, r, true, place) != 0 || gate.Opens(s, r, place)) {
					t.Fatal(s, r, place)
				}
			}
		}
	}
}
