package serial_test

import (
	"math"
	"testing"

	"busbar/plan"
	"busbar/serial"
	"busbar/wires"
	"busbar/word"
)

// slot is a message of so many words, of so many candidates.
func slot(words, many int) plan.Slot {
	w := plan.Window{Kind: plan.Data, Words: words, From: []int{0, 1, 2, 3}[:many]}
	return plan.View(plan.Schedule{Frames: [2][]plan.Window{{w}}}, 0, 9)[1]
}

// outside are numbers and kinds of which nothing is sent.
func outside() []plan.Slot {
	var l []plan.Slot
	for _, kind := range []int{plan.Gap, plan.Short, plan.Long, plan.Version, -1, 5} {
		l = append(l, plan.Slot{Kind: kind, Long: 500, Words: 8, Many: 4})
	}
	return l
}

// TestAt: P14.1.
func TestAt(t *testing.T) {
	for words := 1; words <= 8; words += 7 {
		for many := 1; many <= 4; many++ {
			s := slot(words, many)
			for cand := range many {
				begin := 40 + 80*cand
				for place := -50; place < s.Long+50; place++ {
					bit, tick := -1, 0
					if place >= begin && place < begin+160*words {
						bit, tick = (place-begin)/20, (place-begin)%20
					}
					if b, k := serial.At(s, cand, place); b != bit || k != tick {
						t.Fatal(words, many, cand, place, b, k)
					}
				}
			}
			for _, cand := range []int{-1, many, math.MinInt, math.MaxInt} {
				if b, k := serial.At(s, cand, 60); b != -1 || k != 0 {
					t.Error(cand, b, k)
				}
			}
		}
	}
	for _, s := range outside() {
		if b, k := serial.At(s, 0, 60); b != -1 || k != 0 {
			t.Error(s, b, k)
		}
	}
	s := slot(1, 1)
	for _, place := range []int{math.MinInt, math.MaxInt} {
		if b, k := serial.At(s, 0, place); b != -1 || k != 0 {
			t.Error(place, b, k)
		}
	}
	s.Many = 0
	if b, k := serial.At(s, 0, 60); b != -1 || k != 0 {
		t.Error(b, k)
	}
	s = plan.Slot{Kind: plan.Data, Many: 1, Words: math.MaxInt}
	if b, k := serial.At(s, 0, math.MaxInt); b != (math.MaxInt-40)/20 || k != (math.MaxInt-40)%20 {
		t.Error(b, k)
	}
	for _, words := range []int{0, -1, math.MinInt} {
		s.Words = words
		if b, k := serial.At(s, 0, 40); b != -1 || k != 0 {
			t.Error(words, b, k)
		}
	}
}

// TestWords: P14.2.
func TestWords(t *testing.T) {
	s := slot(1, 1)
	if got := serial.Words(s, 0, []byte{0x80}, false, 40); got != 1 {
		t.Error(got)
	}
	s = slot(2, 3)
	w := []byte{0xa5, 0x3c}
	for cand := range 3 {
		for place := -5; place < s.Long+5; place++ {
			for _, y := range []bool{false, true} {
				want := wires.Lines(0)
				if d := place - 40 - 80*cand; d >= 0 && d < 320 {
					bit, _ := word.Bit(w, d/20)
					want = wires.Drive(y, bit == (d%20 < 10))
				}
				if got := serial.Words(s, cand, w, y, place); got != want {
					t.Fatal(cand, place, y, got, want)
				}
			}
		}
	}
	// Words that are too few have not all bits; such as are too many are not sent.
	for place := range s.Long {
		short := serial.Words(s, 0, w[:1], false, place)
		if place >= 40 && place < 200 {
			if short != serial.Words(s, 0, w, false, place) {
				t.Error(place, short)
			}
		} else if short != 0 {
			t.Error(place, short)
		}
		if serial.Words(s, 0, []byte{0xa5, 0x3c, 9, 9}, true, place) != serial.Words(s, 0, w, true, place) || serial.Words(s, 0, nil, true, place) != 0 {
			t.Error(place)
		}
	}
	for _, s := range outside() {
		if serial.Words(s, 0, w, false, 60) != 0 {
			t.Error(s)
		}
	}
}

// TestPulse: P14.2.
func TestPulse(t *testing.T) {
	for _, s := range []plan.Slot{slot(2, 1), slot(8, 4), {Kind: plan.Long, Long: 200}, {Kind: plan.Long, Long: 240}, {Kind: plan.Short, Long: 120}, {Kind: plan.Version, Long: 120}, {Kind: plan.Gap, Long: 300}, {Kind: 9, Long: 300}} {
		from, to := s.Pulse()
		for place := -20; place < s.Long+20; place++ {
			in := place >= from && place < to
			x, y := serial.Pulse(s, false, place), serial.Pulse(s, true, place)
			if in && (x != 3 || y != 12) || !in && (x != 0 || y != 0) {
				t.Fatal(s, place, x, y)
			}
		}
		if serial.Pulse(s, false, math.MinInt) != 0 || serial.Pulse(s, false, math.MaxInt) != 0 {
			t.Error(s)
		}
	}
}

// TestLook: P14.3.
func TestLook(t *testing.T) {
	s := slot(8, 4)
	for cand := range 4 {
		for place := -5; place < s.Long+5; place++ {
			d := place - 40 - 80*cand
			is := d >= 0 && d < 1280 && d%10 == 5
			bit, second, ok := serial.Look(s, cand, place)
			if ok != is || is && (bit != d/20 || second != (d%20 == 15)) || !is && (bit != 0 || second) {
				t.Fatal(cand, place, bit, second, ok)
			}
		}
	}
	for _, cand := range []int{-1, 4, math.MinInt, math.MaxInt} {
		if bit, second, ok := serial.Look(s, cand, 45); bit != 0 || second || ok {
			t.Error(cand)
		}
	}
	for _, s := range outside() {
		if bit, second, ok := serial.Look(s, 0, 45); bit != 0 || second || ok {
			t.Error(s)
		}
	}
}

// TestTogether: P14.4.
func TestTogether(t *testing.T) {
	for many := 1; many <= 4; many++ {
		s := slot(3, many)
		w := []byte{0x0f, 0x55, 0xfe}
		from, to := s.Pulse()
		for cand := range many {
			looks := 0
			for place := range s.Long {
				l := wires.Or(serial.Words(s, cand, w, false, place), serial.Words(s, cand, w, true, place))
				bit, _ := serial.At(s, cand, place)
				if bit >= 0 && l.Count() != 2 || bit < 0 && l != 0 {
					t.Fatal(many, cand, place, l)
				}
				p := wires.Or(serial.Pulse(s, false, place), serial.Pulse(s, true, place))
				if in := place >= from && place < to; in && p != 15 || !in && p != 0 {
					t.Fatal(many, place, p)
				}
				if n, second, ok := serial.Look(s, cand, place); ok {
					if n != looks/2 || second != (looks%2 == 1) {
						t.Fatal(many, cand, place, n, second)
					}
					looks++
				}
			}
			if looks != 48 {
				t.Error(many, cand, looks)
			}
		}
	}
}
