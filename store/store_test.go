package store_test

import (
	"bytes"
	"math"
	"strings"
	"testing"

	"busbar/api"
	"busbar/store"
)

// none are stores that nobody made.
func none() []*store.Store { return []*store.Store{nil, {}} }

// TestNew: P13.1.
func TestNew(t *testing.T) {
	s := store.New()
	w, good, code := s.Read(0, 64)
	if code != api.OK || good || !bytes.Equal(w, make([]byte, 64)) {
		t.Error(w, good, code)
	}
	for at := range 64 {
		if s.Good(at) || s.Age(at) != -1 {
			t.Error(at)
		}
	}
	if !s.Same(store.New()) {
		t.Error("two new ones")
	}
}

// TestSame: P13.1.
func TestSame(t *testing.T) {
	of := func() *store.Store {
		s := store.New()
		s.Write(3, []byte{7, 8})
		s.Frame()
		s.Write(9, []byte{1})
		return s
	}
	if !of().Same(of()) {
		t.Error("not the same")
	}
	for n, change := range []func(s *store.Store){
		func(s *store.Store) { s.Write(9, []byte{2}) }, func(s *store.Store) { s.Write(10, []byte{0}) }, func(s *store.Store) { s.Spoil(3, 1) },
		func(s *store.Store) { s.Frame() }, func(s *store.Store) { s.Write(3, []byte{7, 8}) },
		func(s *store.Store) { s.Write(40, []byte{1}); s.Spoil(40, 1) },
	} {
		s := of()
		change(s)
		if s.Same(of()) || of().Same(s) {
			t.Error(n)
		}
	}
	for _, a := range none() {
		for _, b := range none() {
			if !a.Same(b) {
				t.Error("none and none")
			}
		}
		if a.Same(of()) || of().Same(a) || a.Same(store.New()) || store.New().Same(a) {
			t.Error("none and some")
		}
	}
}

// TestClone: P13.1.
func TestClone(t *testing.T) {
	s := store.New()
	s.Write(0, []byte{1, 2, 3})
	s.Frame()
	c := s.Clone()
	if !c.Same(s) {
		t.Error("not the same")
	}
	c.Write(1, []byte{9})
	if w, _, _ := s.Read(0, 3); !bytes.Equal(w, []byte{1, 2, 3}) || s.Age(1) != 1 || c.Same(s) {
		t.Error(w)
	}
	for _, s := range none() {
		if s.Clone() != nil {
			t.Error("a clone of none")
		}
	}
}

// TestWrong: P13.2 and P13.3.
func TestWrong(t *testing.T) {
	s := store.New()
	s.Write(0, bytes.Repeat([]byte{5}, 64))
	was := s.Clone()
	for _, c := range [][2]int{
		{-1, 1}, {0, 0}, {0, 65}, {64, 1}, {63, 2}, {0, -1}, {65, 0}, {math.MinInt, 1}, {math.MaxInt, 1}, {0, math.MinInt}, {0, math.MaxInt}, {math.MaxInt, math.MaxInt}, {1, math.MaxInt}, {-5, 10},
	} {
		if code := s.Spoil(c[0], c[1]); code != api.ErrArg {
			t.Error(c, code)
		}
		if w, good, code := s.Read(c[0], c[1]); code != api.ErrArg || good || len(w) != 0 {
			t.Error(c, w, good, code)
		}
		if c[1] >= 0 && c[1] < 100 {
			if code := s.Write(c[0], make([]byte, c[1])); code != api.ErrArg {
				t.Error(c, code)
			}
		}
	}
	if !s.Same(was) {
		t.Error("something was changed")
	}
	for _, at := range []int{-1, 64, math.MinInt, math.MaxInt} {
		if s.Good(at) || s.Age(at) != -1 {
			t.Error(at)
		}
	}
	for _, s := range none() {
		if code := s.Write(-1, nil); code != api.ErrNil {
			t.Error(code)
		}
		if code := s.Spoil(-1, 0); code != api.ErrNil {
			t.Error(code)
		}
		if w, good, code := s.Read(-1, 0); code != api.ErrNil || good || len(w) != 0 {
			t.Error(code)
		}
		s.Frame()
		if s.Good(0) || s.Age(0) != -1 || s.Text() != "" {
			t.Error(s.Age(0), s.Text())
		}
	}
}

// TestWrite: P13.2 and P13.3.
func TestWrite(t *testing.T) {
	s := store.New()
	s.Write(3, []byte{7, 8})
	s.Spoil(4, 1)
	if w, good, code := s.Read(3, 1); code != api.OK || !good || !bytes.Equal(w, []byte{7}) {
		t.Error(w, good, code)
	}
	w, good, code := s.Read(3, 2)
	if code != api.OK || good || !bytes.Equal(w, []byte{7, 8}) {
		t.Error(w, good, code)
	}
	w[0] = 99
	if w, _, _ := s.Read(3, 1); w[0] != 7 {
		t.Error(w)
	}
	if code := s.Write(63, []byte{1}); code != api.OK || !s.Good(63) || s.Age(63) != 0 {
		t.Error(code)
	}
	if code := s.Write(0, make([]byte, 64)); code != api.OK {
		t.Error(code)
	}
	if code := s.Spoil(0, 64); code != api.OK || s.Good(0) || s.Good(63) {
		t.Error(code)
	}
}

// TestFrame: P13.4.
func TestFrame(t *testing.T) {
	s := store.New()
	s.Frame()
	s.Write(0, []byte{1, 2})
	for n := range 5 {
		if s.Age(0) != n || s.Age(2) != -1 {
			t.Error(n, s.Age(0), s.Age(2))
		}
		s.Frame()
	}
	s.Write(1, []byte{2})
	s.Spoil(0, 1)
	s.Frame()
	if s.Age(0) != -1 || s.Age(1) != 1 || s.Good(0) {
		t.Error(s.Age(0), s.Age(1))
	}
	s.Write(0, []byte{1})
	if s.Age(0) != 0 {
		t.Error(s.Age(0))
	}
}

// TestLast: P13.5, against a memory of the test's own.
func TestLast(t *testing.T) {
	s := store.New()
	var words [64]byte
	var good [64]bool
	x := uint32(7)
	for step := range 3000 {
		x = x*1664525 + 1013904223
		at, many := int(x>>8)%64, 1+int(x>>16)%9
		if at+many > 64 {
			continue
		}
		if x>>30 == 0 {
			s.Spoil(at, many)
		} else {
			s.Write(at, bytes.Repeat([]byte{byte(step)}, many))
		}
		for n := at; n < at+many; n++ {
			good[n] = x>>30 != 0
			if good[n] {
				words[n] = byte(step)
			}
		}
		w, all, _ := s.Read(0, 64)
		want := true
		for n := range 64 {
			want = want && good[n]
			if s.Good(n) != good[n] {
				t.Fatal(step, n)
			}
		}
		if !bytes.Equal(w, words[:]) || all != want {
			t.Fatal(step, w)
		}
	}
}

// TestText: P13.6.
func TestText(t *testing.T) {
	s := store.New()
	line := strings.Repeat("-- ", 15) + "--\n"
	if got := s.Text(); got != strings.Repeat(line, 4) {
		t.Errorf("%q", got)
	}
	s.Write(15, []byte{0x0a, 0xff})
	s.Write(63, []byte{0x30})
	s.Write(62, []byte{1})
	s.Spoil(62, 1)
	want := strings.Repeat("-- ", 15) + "0a\nff " + strings.Repeat("-- ", 14) + "--\n" + line + strings.Repeat("-- ", 15) + "30\n"
	if got := s.Text(); got != want {
		t.Errorf("%q", got)
	}
}
