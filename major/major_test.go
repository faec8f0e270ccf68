package major_test

import (
	"bytes"
	"testing"

	"busbar/major"
	"busbar/shift"
	"busbar/wires"
	"busbar/word"
)

// four tells the lowest bits of a number.
func four(n int) [4]bool { return [4]bool{n&1 != 0, n&2 != 0, n&4 != 0, n&8 != 0} }

// TestOf: P16.1, of all there are.
func TestOf(t *testing.T) {
	for b := range 16 {
		for i := range 16 {
			ones, zeros := wires.Lines(b&i).Count(), wires.Lines(i&^b).Count()
			bit, is := major.Of(four(b), four(i))
			if is != (ones >= 3 || zeros >= 3) || bit != (ones >= 3) {
				t.Error(b, i, bit, is)
			}
		}
	}
	all := [4]bool{true, true, true, true}
	if bit, is := major.Of([4]bool{true, true, true, false}, all); !bit || !is {
		t.Error(bit, is)
	}
	if bit, is := major.Of([4]bool{true, true, false, false}, all); bit || is {
		t.Error(bit, is)
	}
}

// sent tells a shift of words, of which each half is changed before it is looked at.
func sent(w []byte, change func(n int, second bool, l wires.Lines) wires.Lines) *shift.Shift {
	s := shift.New(len(w))
	for n, bit := range word.Bits(w...) {
		for _, second := range []bool{false, true} {
			level := bit != second
			s.Put(n, second, change(n, second, wires.Or(wires.Drive(false, level), wires.Drive(true, level))))
		}
	}
	return s
}

func plain(n int, second bool, l wires.Lines) wires.Lines { return l }

// TestMessage: P16.2.
func TestMessage(t *testing.T) {
	for _, w := range [][]byte{{0}, {255}, {0xa5, 0x3c, 1}, {1, 2, 3, 4, 5, 6, 7, 8}} {
		if got, known := major.Message(sent(w, plain)); !known || !bytes.Equal(got, w) {
			t.Error(w, got, known)
		}
		// one half of one bit is not to be read on two lines
		for at := range 8 * len(w) {
			s := sent(w, func(n int, second bool, l wires.Lines) wires.Lines {
				if n == at && second {
					return l ^ 3
				}
				return l
			})
			if got, known := major.Message(s); known || len(got) != 0 {
				t.Error(w, at, got, known)
			}
		}
	}
	for _, s := range []*shift.Shift{nil, {}, shift.New(0), shift.New(1)} {
		if got, known := major.Message(s); known || len(got) != 0 {
			t.Error(got, known)
		}
	}
}

// TestBetter: P16.2.
func TestBetter(t *testing.T) {
	a, b := sent([]byte{7}, plain), sent([]byte{9}, plain)
	for _, c := range []struct {
		a, b *shift.Shift
		want []byte
	}{{a, b, []byte{7}}, {b, a, []byte{9}}, {nil, b, []byte{9}}, {shift.New(1), b, []byte{9}}, {a, nil, []byte{7}}, {nil, nil, nil}, {shift.New(1), shift.New(2), nil}} {
		if got, known := major.Better(c.a, c.b); known != (c.want != nil) || !bytes.Equal(got, c.want) {
			t.Error(got, known, c.want)
		}
	}
}

// TestOdd: P16.3.
func TestOdd(t *testing.T) {
	w := []byte{0xa5, 0x3c}
	if got := major.Odd(sent(w, plain)); got != [4]int{} {
		t.Error(got)
	}
	for line := range 4 {
		still := sent(w, func(n int, second bool, l wires.Lines) wires.Lines { return l.Set(line, true) })
		other := sent(w, func(n int, second bool, l wires.Lines) wires.Lines {
			if n < 5 {
				return l ^ 1<<line
			}
			return l
		})
		var all, five [4]int
		all[line], five[line] = 16, 5
		if got := major.Odd(still); got != all {
			t.Error(line, got)
		}
		if got := major.Odd(other); got != five {
			t.Error(line, got)
		}
	}
	// Bits that are none do not count.
	none := sent(w, func(n int, second bool, l wires.Lines) wires.Lines {
		if n < 3 {
			return l ^ 3
		}
		return l.Set(3, false)
	})
	if got := major.Odd(none); got != [4]int{0, 0, 0, 13} {
		t.Error(got)
	}
	for _, s := range []*shift.Shift{nil, {}, shift.New(4)} {
		if got := major.Odd(s); got != [4]int{} {
			t.Error(got)
		}
	}
}

// TestOtherwise: P16.4, of one bit whose lines stand in all ways that two lines may make of it.
func TestOtherwise(t *testing.T) {
	for _, w := range [][]byte{{0x80}, {0}} {
		for a := range 4 {
			for b := range 4 {
				mask := wires.Lines(1<<a | 1<<b)
				for first := range wires.Lines(16) {
					for second := range wires.Lines(16) {
						s := sent(w, func(n int, late bool, l wires.Lines) wires.Lines {
							if late {
								return l ^ second&mask
							}
							return l ^ first&mask
						})
						got, known := major.Message(s)
						if known && !bytes.Equal(got, w) || !known && a == b {
							t.Fatal(w, a, b, first, second, got, known)
						}
					}
				}
			}
		}
	}
}
