package host_test

import (
	"bytes"
	"math"
	"testing"

	"busbar/api"
	"busbar/host"
	"busbar/store"
)

// TestWorth: what words are worth, by numbers.
func TestWorth(t *testing.T) {
	if host.Fresh != 0 || host.Old != 1 || host.Bad != 2 {
		t.Error(host.Fresh, host.Old, host.Bad)
	}
}

// TestNone: P27.1 and P27.2.
func TestNone(t *testing.T) {
	for n, p := range []*host.Port{nil, {}, host.New(nil), host.New(&store.Store{})} {
		if code := p.Put(-1, nil); code != api.ErrNil {
			t.Error(n, code)
		}
		if code := p.Put(0, []byte{1}); code != api.ErrNil {
			t.Error(n, code)
		}
		if w, worth, code := p.Get(0, 1, 0); code != api.ErrNil || worth != 0 || len(w) != 0 {
			t.Error(n, w, worth, code)
		}
		if p.Waiting() != 0 || p.Flush() != 0 || p.Drop() != 0 {
			t.Error(n)
		}
	}
}

// TestPut: P27.2 and P27.4.
func TestPut(t *testing.T) {
	m := store.New()
	p := host.New(m)
	if p.Waiting() != 0 || p.Flush() != 0 || p.Drop() != 0 {
		t.Error(p.Waiting())
	}
	w := []byte{7, 8}
	if code := p.Put(3, w); code != api.OK || p.Waiting() != 1 {
		t.Error(code, p.Waiting())
	}
	w[0] = 99
	if w, worth, code := p.Get(3, 2, 5); code != api.OK || worth != host.Bad || !bytes.Equal(w, []byte{0, 0}) {
		t.Error(w, worth, code)
	}
	p.Put(4, []byte{9})
	p.Put(3, []byte{5})
	if got := p.Flush(); got != 3 || p.Waiting() != 0 {
		t.Error(got, p.Waiting())
	}
	if w, worth, code := p.Get(3, 2, 0); code != api.OK || worth != host.Fresh || !bytes.Equal(w, []byte{5, 9}) {
		t.Error(w, worth, code)
	}
	if got := p.Flush(); got != 0 {
		t.Error(got)
	}
	was := m.Clone()
	p.Put(0, []byte{1})
	p.Put(1, []byte{1})
	if got := p.Drop(); got != 2 || p.Waiting() != 0 || p.Flush() != 0 || !m.Same(was) {
		t.Error(got, p.Waiting())
	}
	p.Put(0, []byte{1})
	if got := p.Drop(); got != 1 || p.Waiting() != 0 {
		t.Error(got, p.Waiting())
	}
	// Behind a Drop all goes on in order.
	p.Put(0, []byte{1})
	p.Put(0, []byte{2})
	if got := p.Flush(); got != 2 {
		t.Error(got)
	}
	if w, _, _ := p.Get(0, 1, 0); w[0] != 2 {
		t.Error(w)
	}
}

// TestPutWrong: P27.2.
func TestPutWrong(t *testing.T) {
	p := host.New(store.New())
	for _, c := range []struct{ at, many int }{{-1, 1}, {0, 0}, {64, 1}, {63, 2}, {0, 65}, {math.MinInt, 1}, {math.MaxInt, 1}, {math.MaxInt, 64}} {
		if code := p.Put(c.at, make([]byte, c.many)); code != api.ErrArg || p.Waiting() != 0 {
			t.Error(c, code)
		}
	}
	for n := range 64 {
		if code := p.Put(n, []byte{byte(n)}); code != api.OK || p.Waiting() != n+1 {
			t.Error(n, code)
		}
	}
	if code := p.Put(0, []byte{1}); code != api.ErrLong || p.Waiting() != 64 {
		t.Error(code, p.Waiting())
	}
	if code := p.Put(-1, []byte{1}); code != api.ErrArg {
		t.Error(code)
	}
	if got := p.Flush(); got != 64 {
		t.Error(got)
	}
	for n := range 64 {
		if w, _, _ := p.Get(n, 1, 0); w[0] != byte(n) {
			t.Error(n, w)
		}
	}
	if code := p.Put(0, make([]byte, 64)); code != api.OK {
		t.Error(code)
	}
}

// TestGet: P27.3.
func TestGet(t *testing.T) {
	m := store.New()
	p := host.New(m)
	for _, c := range [][2]int{{-1, 1}, {0, 0}, {0, 65}, {63, 2}, {64, 1}, {math.MaxInt, math.MaxInt}, {0, math.MinInt}} {
		if w, worth, code := p.Get(c[0], c[1], 0); code != api.ErrArg || worth != 0 || len(w) != 0 {
			t.Error(c, w, worth, code)
		}
		if got := p.Oldest(c[0], c[1]); got != -1 {
			t.Error(c, got)
		}
	}
	m.Write(0, []byte{1})
	m.Frame()
	m.Frame()
	m.Write(1, []byte{2})
	m.Frame()
	for _, c := range []struct{ at, many, age, worth, oldest int }{
		{0, 1, 3, host.Fresh, 3}, {0, 1, 2, host.Old, 3}, {1, 1, 1, host.Fresh, 1}, {1, 1, 0, host.Old, 1}, {0, 2, 2, host.Old, 3}, {0, 2, 3, host.Fresh, 3}, {0, 3, 99, host.Bad, -1}, {2, 1, 99, host.Bad, -1},
		{0, 1, -1, host.Old, 3}, {0, 1, math.MinInt, host.Old, 3}, {0, 1, math.MaxInt, host.Fresh, 3},
	} {
		w, worth, code := p.Get(c.at, c.many, c.age)
		if code != api.OK || worth != c.worth || len(w) != c.many || p.Oldest(c.at, c.many) != c.oldest {
			t.Error(c, w, worth, code, p.Oldest(c.at, c.many))
		}
		w[0] = 77
	}
	if w, _, _ := m.Read(0, 2); !bytes.Equal(w, []byte{1, 2}) {
		t.Error(w)
	}
	m.Spoil(0, 1)
	if w, worth, _ := p.Get(0, 1, 9); worth != host.Bad || w[0] != 1 {
		t.Error(w, worth)
	}
}
