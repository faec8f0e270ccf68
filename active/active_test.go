package active_test

import (
	"math"
	"testing"

	"busbar/active"
	"busbar/plan"
	"busbar/serial"
	"busbar/wires"
)

// slot is a message of one word, of so many candidates.
func slot(many int) plan.Slot {
	return plan.Slot{Kind: plan.Data, Words: 1, Many: many, Long: 360 + 80*(many-1), Cand: -1}
}

// TestPlaces: P17.1.
func TestPlaces(t *testing.T) {
	if active.From() != 20 {
		t.Error(active.From())
	}
	for _, c := range [][2]int{{1, 80}, {2, 160}, {4, 320}, {0, 80}, {-1, 80}, {1000, 80000}, {1001, 80000}, {math.MinInt, 80}, {math.MaxInt, 80000}} {
		if got := active.To(plan.Slot{Many: c[0]}); got != c[1] {
			t.Error(c, got)
		}
	}
	for _, c := range [][3]int{{1, 0, 30}, {4, 1, 110}, {4, 3, 270}, {4, 4, 0}, {4, -1, 0}, {1, math.MaxInt, 0}, {1, math.MinInt, 0}} {
		if got := active.Decides(slot(c[0]), c[1]); got != c[2] {
			t.Error(c, got)
		}
	}
	if got := active.Decides(plan.Slot{Kind: plan.Short, Many: 1}, 0); got != 0 {
		t.Error(got)
	}
}

// TestSee: P17.2 and P17.3.
func TestSee(t *testing.T) {
	for many := 1; many <= 4; many++ {
		for place := -10; place < 400; place++ {
			for _, l := range []wires.Lines{0, 1, 8, 3, 9, 14, 15, 0xf1} {
				w := active.New(slot(many))
				if w.First() != -1 || w.Cand() != -1 || !w.Clear() {
					t.Fatal(w.First(), w.Cand(), w.Clear())
				}
				w.See(place, l)
				first, cand := -1, -1
				if place >= 20 && place < 80*many && l.Count() >= 2 {
					first, cand = place, place/80
				}
				if w.First() != first || w.Cand() != cand || w.Clear() != (first < 0) {
					t.Fatal(many, place, l, w.First(), w.Cand(), w.Clear())
				}
			}
		}
	}
	w := active.New(slot(2))
	for _, place := range []int{math.MinInt, math.MaxInt, 19, 160} {
		w.See(place, 15)
	}
	if w.First() != -1 {
		t.Error(w.First())
	}
	w.See(118, 3)
	w.See(20, 15)
	w.See(119, 15)
	if w.First() != 118 || w.Cand() != 1 || w.Clear() {
		t.Error(w.First(), w.Cand(), w.Clear())
	}
}

// TestNobodyMade: P17.2.
func TestNobodyMade(t *testing.T) {
	for _, w := range []*active.Watch{nil, {}} {
		w.See(50, 15)
		if w.First() != -1 || w.Cand() != -1 || w.Clear() {
			t.Error(w.First(), w.Cand(), w.Clear())
		}
	}
}

// TestNear: P17.4.
func TestNear(t *testing.T) {
	for many := 1; many <= 4; many++ {
		s := slot(many)
		for cand := range many {
			for apart := -5; apart <= 5; apart++ {
				for _, word := range []byte{0, 255, 0x5a} {
					w := active.New(s)
					for place := range s.Long {
						// who looks is at place while who sends is apart ticks ahead, or behind
						l := wires.Or(serial.Words(s, cand, []byte{word}, false, place+apart), serial.Words(s, cand, []byte{word}, true, place+apart))
						if next := cand + 1; next < many && place == active.Decides(s, next) && w.Clear() {
							t.Fatal(many, cand, apart, "not seen ahead of the next one's turn")
						}
						if place == active.Decides(s, cand) && !w.Clear() {
							t.Fatal(many, cand, apart, "seen ahead of its own turn")
						}
						w.See(place, l)
					}
					if w.Cand() != cand {
						t.Fatal(many, cand, apart, w.First(), w.Cand())
					}
				}
			}
		}
	}
}
