package shift_test

import (
	"math"
	"testing"

	"busbar/shift"
	"busbar/wires"
	"busbar/word"
)

// TestNew: P15.1.
func TestNew(t *testing.T) {
	for _, c := range [][2]int{{0, 0}, {1, 8}, {8, 64}, {9, 64}, {-1, 0}, {math.MinInt, 0}, {math.MaxInt, 64}} {
		s := shift.New(c[0])
		if s.Bits() != c[1] || s.Seen() != 0 {
			t.Error(c, s.Bits(), s.Seen())
		}
		for n := range 64 {
			if bit, is := s.Says(n); bit != [4]bool{} || is != [4]bool{} {
				t.Error(c, n)
			}
		}
	}
	for _, s := range []*shift.Shift{nil, {}} {
		s.Put(0, false, 9)
		s.Put(0, true, 6)
		bit, is := s.Line(0, 0)
		all, each := s.Says(0)
		if s.Bits() != 0 || s.Seen() != 0 || bit || is || all != [4]bool{} || each != [4]bool{} {
			t.Error("of none")
		}
	}
}

// TestPut: P15.2 and P15.3.
func TestPut(t *testing.T) {
	s := shift.New(1)
	s.Put(0, false, 9)
	if bit, is := s.Says(0); bit != [4]bool{} || is != [4]bool{} || s.Seen() != 1 {
		t.Error(bit, is, s.Seen())
	}
	s.Put(0, true, 6)
	if bit, is := s.Says(0); bit != [4]bool{true, true, true, true} || is != [4]bool{true, true, true, true} || s.Seen() != 2 {
		t.Error(bit, is, s.Seen())
	}
	s.Put(0, true, 6)
	s.Put(0, false, 6)
	if bit, is := s.Says(0); bit != [4]bool{} || is != [4]bool{} || s.Seen() != 2 {
		t.Error(bit, is, s.Seen())
	}
	s.Put(0, true, 9)
	if bit, is := s.Says(0); bit != [4]bool{} || is != [4]bool{true, true, true, true} {
		t.Error(bit, is)
	}
	for _, n := range []int{-1, 8, 63, 64, math.MinInt, math.MaxInt} {
		s.Put(n, false, 9)
		s.Put(n, true, 6)
		if bit, is := s.Line(0, n); bit || is || s.Seen() != 2 {
			t.Error(n, bit, is, s.Seen())
		}
	}
	s.Put(7, true, 9)
	if bit, is := s.Line(0, 7); bit || is || s.Seen() != 3 {
		t.Error(bit, is, s.Seen())
	}
	for _, line := range []int{-1, 4, math.MinInt, math.MaxInt} {
		if bit, is := s.Line(line, 0); bit || is {
			t.Error(line)
		}
	}
}

// TestLine: P15.3, of all lines in both halves.
func TestLine(t *testing.T) {
	for first := range wires.Lines(16) {
		for second := range wires.Lines(16) {
			s := shift.New(8)
			s.Put(63, true, second)
			s.Put(63, false, first)
			a, b := first.Says(), second.Says()
			bits, are := s.Says(63)
			for line := range 4 {
				bit, is := s.Line(line, 63)
				if is != (a[line] != b[line]) || bit != (is && a[line]) || bits[line] != bit || are[line] != is {
					t.Fatal(first, second, line, bit, is)
				}
			}
		}
	}
}

// TestSent: P15.4.
func TestSent(t *testing.T) {
	w := []byte{0xa5, 0x0f, 0x81}
	for odd := -1; odd < 4; odd++ {
		for _, high := range []bool{false, true} {
			s := shift.New(3)
			for n, bit := range word.Bits(w...) {
				for _, second := range []bool{false, true} {
					level := bit != second
					l := wires.Or(wires.Drive(false, level), wires.Drive(true, level))
					s.Put(n, second, l.Set(odd, high))
				}
			}
			if s.Seen() != 48 {
				t.Error(s.Seen())
			}
			for n, want := range word.Bits(w...) {
				for line := range 4 {
					bit, is := s.Line(line, n)
					if line != odd && (!is || bit != want) || line == odd && is {
						t.Error(odd, high, n, line, bit, is)
					}
				}
			}
		}
	}
}
