package calendar_test

import (
	"math"
	"math/rand"
	"testing"

	"busbar/api"
	"busbar/calendar"
	"busbar/plan"
	"busbar/valid"
)

func data(words, addr int) plan.Window {
	return plan.Window{Kind: plan.Data, Words: words, Addr: addr, From: []int{0}, To: []int{1}}
}

// sample has slots that begin at 0, 200, 720, 860, 980 and 1340, in frames of 1460 ticks.
func sample() plan.Schedule {
	return plan.Schedule{Modules: 2, Frames: [2][]plan.Window{{data(2, 5), {Kind: plan.Gap, Bits: 7}, {Kind: plan.Short}, data(1, 6)}, {data(1, 9)}}}
}

// TestAt: P43.1.
func TestAt(t *testing.T) {
	for _, c := range []struct{ tick, slot, place int }{
		{0, 0, 0}, {199, 0, 199}, {200, 1, 0}, {719, 1, 519}, {720, 2, 0}, {860, 3, 0}, {980, 4, 0}, {1339, 4, 359}, {1340, 5, 0}, {1459, 5, 119}, {1460, 0, 0}, {1460*1000 + 721, 2, 1}, {-1, -1, 0}, {1<<40 + 1, -1, 0}, {math.MinInt, -1, 0}, {math.MaxInt, -1, 0},
	} {
		if slot, place := calendar.At(sample(), 0, c.tick); slot != c.slot || place != c.place {
			t.Error(c, slot, place)
		}
	}
	if slot, _ := calendar.At(sample(), 0, 1<<40); slot < 0 {
		t.Error(slot)
	}
}

// TestNext: P43.1.
func TestNext(t *testing.T) {
	for _, c := range []struct{ slot, tick, want int }{
		{0, 0, 0}, {0, 1, 1460}, {0, 1460, 1460}, {0, 1461, 2920}, {1, 0, 200}, {1, 200, 200}, {1, 201, 1660}, {5, 1340, 1340}, {5, 1341, 2800}, {6, 0, -1}, {-1, 0, -1}, {0, -1, -1}, {0, 1<<40 + 1, -1}, {math.MaxInt, 0, -1}, {math.MinInt, 0, -1}, {1, math.MinInt, -1}, {1, math.MaxInt, -1},
	} {
		if got := calendar.Next(sample(), 0, c.slot, c.tick); got != c.want {
			t.Error(c, got)
		}
	}
	if got := calendar.Next(sample(), 0, 1, 1<<40); got < 1<<40 || got%1460 != 200 || got >= 1<<40+1460 {
		t.Error(got)
	}
}

// TestBegins: P43.1.
func TestBegins(t *testing.T) {
	for _, c := range []struct{ slot, ticks, want int }{
		{0, 1, 1}, {0, 1460, 1}, {0, 1461, 2}, {1, 200, 0}, {1, 201, 1}, {1, 1660, 1}, {1, 1661, 2}, {5, 146000, 100}, {6, 100000, 0}, {-1, 100000, 0}, {0, 0, 0}, {0, -1, 0}, {0, 1<<40 + 1, 0}, {0, math.MinInt, 0}, {0, math.MaxInt, 0}, {math.MinInt, 5, 0}, {0, 1 << 40, (1<<40-1)/1460 + 1},
	} {
		if got := calendar.Begins(sample(), 0, c.slot, c.ticks); got != c.want {
			t.Error(c, got)
		}
	}
}

// TestAge: P43.2.
func TestAge(t *testing.T) {
	// place 6 is written by windows from 200 to 720, and from 980 to 1340
	for _, c := range []struct{ addr, age, late int }{
		{5, 1460, 1460 + 520 - 1}, {6, 1460 - 620, 720 + 1460 - 981}, {7, 0, 0}, {4, 0, 0}, {-1, 0, 0}, {64, 0, 0}, {math.MinInt, 0, 0}, {math.MaxInt, 0, 0},
	} {
		if age, late := calendar.Age(sample(), 0, c.addr), calendar.Late(sample(), 0, c.addr); age != c.age || late != c.late {
			t.Error(c, age, late)
		}
	}
}

// TestLine: P43.3.
func TestLine(t *testing.T) {
	if got := calendar.Line(plan.Schedule{Modules: 2}, 0); got != "L200 V120" {
		t.Error(got)
	}
	if got := calendar.Line(sample(), 0); got != "L200 D520 .140 S120 D360 V120" {
		t.Error(got)
	}
	if got := calendar.Line(sample(), 1); got != "L240 D360 V120" {
		t.Error(got)
	}
}

// TestNone: of what may not be.
func TestNone(t *testing.T) {
	bad := sample()
	bad.Frames[1][0].Words = 9
	check := func(s plan.Schedule, version int) {
		t.Helper()
		slot, place := calendar.At(s, version, 5)
		if slot != -1 || place != 0 || calendar.Next(s, version, 0, 5) != -1 || calendar.Begins(s, version, 0, 5) != 0 || calendar.Age(s, version, 5) != 0 || calendar.Late(s, version, 5) != 0 || calendar.Line(s, version) != "" {
			t.Error(version, slot, place)
		}
	}
	check(bad, 0)
	check(plan.Schedule{}, 0)
	for _, version := range []int{-1, 2, math.MinInt, math.MaxInt} {
		check(sample(), version)
	}
}

// anySchedule tells one that may be, by chance.
func anySchedule(r *rand.Rand) plan.Schedule {
	for {
		s := plan.Schedule{Modules: 2}
		for version := range 2 {
			for range r.Intn(6) {
				w := []plan.Window{{Kind: plan.Short}, {Kind: plan.Gap, Bits: 1 + r.Intn(30)}, data(1+r.Intn(3), r.Intn(6))}[r.Intn(3)]
				s.Frames[version] = append(s.Frames[version], w)
			}
		}
		if valid.Check(s).Code == api.OK {
			return s
		}
	}
}

// TestTicks: P43.1 and P43.4, tick by tick.
func TestTicks(t *testing.T) {
	for seed := range int64(15) {
		s := anySchedule(rand.New(rand.NewSource(seed)))
		for version := range 2 {
			slots, long := plan.View(s, version, -1), plan.Frame(s, version)
			begun := make([]int, len(slots))
			slot, place := len(slots)-1, slots[len(slots)-1].Long-1
			for tick := range 2*long + 50 {
				if place++; place == slots[slot].Long {
					slot, place = (slot+1)%len(slots), 0
					begun[slot]++
				}
				if a, b := calendar.At(s, version, tick); a != slot || b != place {
					t.Fatal(seed, tick, a, b)
				}
				if tick%29 != 0 {
					continue
				}
				for n := range slots {
					if got := calendar.Begins(s, version, n, tick+1); got != begun[n] {
						t.Fatal(seed, tick, n, got, begun)
					}
					next := calendar.Next(s, version, n, tick)
					if a, b := calendar.At(s, version, next); next < tick || next >= tick+long || a != n || b != 0 {
						t.Fatal(seed, tick, n, next)
					}
				}
			}
		}
	}
}

// TestWrites: P43.2 and P43.4, against windows that are gone through one by one.
func TestWrites(t *testing.T) {
	for seed := range int64(25) {
		s := anySchedule(rand.New(rand.NewSource(seed)))
		for version := range 2 {
			long := plan.Frame(s, version)
			for addr := range 9 {
				var begins, ends []int
				for frame := range 3 {
					for _, slot := range plan.View(s, version, 0) {
						if slot.Kind == plan.Data && addr >= slot.Addr && addr < slot.Addr+slot.Words {
							begins = append(begins, frame*long+slot.Start)
							ends = append(ends, frame*long+slot.Start+slot.Long)
						}
					}
				}
				age, late, widest := 0, 0, 0
				for n := 1; n < len(ends); n++ {
					age = max(age, ends[n]-ends[n-1])
					widest = max(widest, ends[n]-begins[n])
				}
				for tick := 0; tick <= 2*long && len(ends) > 0; tick++ {
					n := 0
					for begins[n] < tick {
						n++
					}
					late = max(late, ends[n]-tick)
				}
				if calendar.Age(s, version, addr) != age || calendar.Late(s, version, addr) != late {
					t.Fatal(seed, addr, age, late, calendar.Age(s, version, addr), calendar.Late(s, version, addr))
				}
				if age > long || late > 0 && late >= long+widest {
					t.Fatal(seed, addr, age, late)
				}
			}
		}
	}
}
