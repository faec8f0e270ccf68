package word_test

import (
	"bytes"
	"math"
	"math/bits"
	"slices"
	"testing"

	"busbar/word"
)

// TestBits: P2.1.
func TestBits(t *testing.T) {
	if b := word.Bits(); len(b) != 0 {
		t.Error(b)
	}
	want := []bool{false, false, false, false, false, true, false, true}
	if b := word.Bits(5); !slices.Equal(b, want) {
		t.Error(b)
	}
	b := word.Bits(0x80, 0x01)
	if len(b) != 16 || !b[0] || !b[15] || slices.Contains(b[1:15], true) {
		t.Error(b)
	}
}

// TestWords: P2.1.
func TestWords(t *testing.T) {
	if w, ok := word.Words(nil); !ok || len(w) != 0 {
		t.Error(w, ok)
	}
	for n := range 40 {
		w, ok := word.Words(make([]bool, n))
		if ok != (n%8 == 0) || ok && len(w) != n/8 || !ok && len(w) != 0 {
			t.Error(n, w, ok)
		}
	}
	all := make([]byte, 256)
	for n := range all {
		all[n] = byte(n)
	}
	if w, ok := word.Words(word.Bits(all...)); !ok || !bytes.Equal(w, all) {
		t.Error(w, ok)
	}
}

// TestBit: P2.1.
func TestBit(t *testing.T) {
	w := []byte{0x81, 0x40, 0xff, 0}
	for n, want := range word.Bits(w...) {
		if bit, ok := word.Bit(w, n); !ok || bit != want {
			t.Error(n, bit, ok)
		}
	}
	for _, n := range []int{-1, 32, math.MinInt, math.MaxInt} {
		if bit, ok := word.Bit([]byte{255, 255, 255, 255}, n); ok || bit {
			t.Error(n, bit, ok)
		}
	}
	// What lies behind a list's length is not read.
	if bit, ok := word.Bit([]byte{255, 255}[:1], 8); ok || bit {
		t.Error(bit, ok)
	}
	if bit, ok := word.Bit(nil, 0); ok || bit {
		t.Error(bit, ok)
	}
}

// TestLong: P2.1.
func TestLong(t *testing.T) {
	for _, c := range [][2]int{{0, 0}, {1, 8}, {8, 64}, {-1, 0}, {math.MinInt, 0}, {math.MaxInt, 0}, {1 << 40, 8 << 40}, {1<<40 + 1, 0}} {
		if got := word.Long(c[0]); got != c[1] {
			t.Errorf("Long(%d) = %d", c[0], got)
		}
	}
}

// TestParity: P2.1.
func TestParity(t *testing.T) {
	if word.Parity(nil) {
		t.Error("none")
	}
	for n := range 1 << 16 {
		if word.Parity([]byte{byte(n >> 8), byte(n)}) != (bits.OnesCount(uint(n))%2 == 1) {
			t.Fatal(n)
		}
	}
}

// TestGather: P2.2 and P2.3.
func TestGather(t *testing.T) {
	for _, c := range [][2]int{{0, 0}, {1, 8}, {3, 24}, {8, 64}, {9, 64}, {-1, 0}, {math.MinInt, 0}, {math.MaxInt, 64}} {
		m := word.Gather(c[0])
		if got := m.Missing(); got != c[1] {
			t.Errorf("Gather(%d): %d missing", c[0], got)
		}
		if w, ok := m.Whole(); ok != (c[1] == 0) || len(w) != 0 {
			t.Errorf("Gather(%d): %v, %v", c[0], w, ok)
		}
	}
}

// TestPut: P2.2.
func TestPut(t *testing.T) {
	m := word.Gather(1)
	for _, n := range []int{-1, 8, 63, 64, math.MinInt, math.MaxInt} {
		m.Put(n, true, true)
	}
	if m.Missing() != 8 {
		t.Error(m.Missing())
	}
	for n := range 8 {
		m.Put(n, n == 0, true)
	}
	if w, ok := m.Whole(); !ok || !bytes.Equal(w, []byte{0x80}) {
		t.Error(w, ok)
	}
	m.Put(0, false, true)
	m.Put(7, true, true)
	if w, ok := m.Whole(); !ok || !bytes.Equal(w, []byte{0x01}) {
		t.Error(w, ok)
	}
	m.Put(3, false, false)
	if w, ok := m.Whole(); ok || len(w) != 0 || m.Missing() != 1 {
		t.Error(w, ok, m.Missing())
	}
	m.Put(3, true, true)
	if w, ok := m.Whole(); !ok || !bytes.Equal(w, []byte{0x11}) {
		t.Error(w, ok)
	}
}

// TestWholeIsNew: P2.3.
func TestWholeIsNew(t *testing.T) {
	m := word.Gather(2)
	for n := range 16 {
		m.Put(n, true, true)
	}
	w, _ := m.Whole()
	full := w[:cap(w)]
	for n := range full {
		full[n] = 0
	}
	if w, ok := m.Whole(); !ok || !bytes.Equal(w, []byte{255, 255}) {
		t.Error(w, ok)
	}
}

// TestNobodyMade: P2.3.
func TestNobodyMade(t *testing.T) {
	for _, m := range []*word.Message{nil, {}} {
		m.Put(0, true, true)
		if w, ok := m.Whole(); ok || len(w) != 0 || m.Missing() != 0 {
			t.Error(w, ok, m.Missing())
		}
	}
}

// TestAnyOrder: P2.4.
func TestAnyOrder(t *testing.T) {
	w := []byte{0xde, 0xad, 0xbe, 0xef, 0, 255, 1, 0x7f}
	for _, step := range []int{1, 3, 5, 7, 33, 63} {
		m := word.Gather(len(w))
		for k := range 64 {
			if _, ok := m.Whole(); ok {
				t.Error("whole too soon")
			}
			if m.Missing() != 64-k {
				t.Error(m.Missing())
			}
			n := k * step % 64
			bit, _ := word.Bit(w, n)
			m.Put(n, bit, true)
		}
		if got, ok := m.Whole(); !ok || !bytes.Equal(got, w) {
			t.Error(step, got, ok)
		}
	}
}
