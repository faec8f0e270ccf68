package model_test

import (
	"bytes"
	"math"
	"testing"

	"busbar/api"
	"busbar/model"
	"busbar/plan"
	"busbar/plane"
)

func data(words, addr int, from, to []int) plan.Window {
	return plan.Window{Kind: plan.Data, Words: words, Addr: addr, From: from, To: to}
}

func schedule() plan.Schedule {
	return plan.Schedule{Modules: 4, Frames: [2][]plan.Window{
		{data(2, 5, []int{0, 1}, []int{2, 3}), {Kind: plan.Short}, data(1, 6, []int{3}, []int{0})},
		{{Kind: plan.Gap, Bits: 9}, data(1, 0, []int{2}, []int{1})},
	}}
}

func made(t *testing.T) *model.Model {
	t.Helper()
	m, code := model.New(schedule())
	if code != api.OK {
		t.Fatal(code)
	}
	return m
}

// TestNew: P26.1.
func TestNew(t *testing.T) {
	for _, c := range []struct {
		s    plan.Schedule
		want api.Errno
	}{{plan.Schedule{}, api.ErrArg}, {plan.Schedule{Modules: 2, Frames: [2][]plan.Window{1: {{Kind: plan.Gap}}}}, api.ErrBig}, {plan.Schedule{Modules: 2, Frames: [2][]plan.Window{{data(1, 0, []int{0}, []int{0})}}}, api.ErrTwice}} {
		if m, code := model.New(c.s); code != c.want || m != nil {
			t.Error(c.s, code)
		}
	}
	s := schedule()
	m, _ := model.New(s)
	s.Frames[0][0].From[0] = 1
	s.Frames[0][0].Addr = 60
	w := schedule().Frames[0][0]
	if got := m.Sender(w); got != -1 {
		t.Error(got)
	}
	for n := range 4 {
		if m.Memory(n) == nil || m.Memory(n) != m.Memory(n) || m.Memory(n).Good(0) {
			t.Error(n)
		}
		m.Set(n, true, true)
	}
	m.Memory(0).Write(5, []byte{1, 2})
	m.Window(0, 0)
	if w, good, _ := m.Memory(2).Read(5, 2); !good || !bytes.Equal(w, []byte{1, 2}) {
		t.Error(w, good)
	}
	for _, n := range []int{-1, 4, math.MinInt, math.MaxInt} {
		m.Set(n, true, true)
		if m.Memory(n) != nil {
			t.Error(n)
		}
	}
}

// TestSender: P26.2, of all ways in which two candidates may be.
func TestSender(t *testing.T) {
	w := schedule().Frames[0][0]
	for n := range 16 {
		m := made(t)
		m.Set(0, n&1 != 0, n&2 != 0)
		m.Set(1, n&4 != 0, n&8 != 0)
		want := -1
		if n&12 == 12 {
			want = 1
		}
		if n&3 == 3 {
			want = 0
		}
		if got := m.Sender(w); got != want {
			t.Error(n, got, want)
		}
	}
	m := made(t)
	for n := range 4 {
		m.Set(n, true, true)
	}
	for _, w := range []plan.Window{{Kind: plan.Gap, From: []int{0}}, {Kind: plan.Short, From: []int{0}}, {Kind: 9, From: []int{0}}, {From: []int{-1, 4, 99}}, {}} {
		if got := m.Sender(w); got != -1 {
			t.Error(w, got)
		}
	}
	if got := m.Sender(plan.Window{From: []int{9, 3}}); got != 1 {
		t.Error(got)
	}
}

// TestWindow: P26.3 and P26.5.
func TestWindow(t *testing.T) {
	m := made(t)
	for n := range 4 {
		m.Memory(n).Write(4, []byte{byte(0x10 * n), byte(0x10*n + 1), byte(0x10*n + 2), byte(0x10*n + 3)})
	}
	m.Set(0, true, false)
	m.Set(1, true, true)
	m.Set(2, true, true)
	was := m.Clone()
	for _, c := range [][2]int{{0, 1}, {0, 3}, {0, -1}, {2, 0}, {-1, 0}, {1, 0}, {math.MinInt, 0}, {0, math.MaxInt}} {
		m.Window(c[0], c[1])
		if !m.Same(was) {
			t.Error(c)
		}
	}
	m.Window(0, 0)
	for n, want := range [][]byte{{0, 1, 2, 3}, {0x10, 0x11, 0x12, 0x13}, {0x20, 0x11, 0x12, 0x23}, {0x30, 0x31, 0x32, 0x33}} {
		if w, good, _ := m.Memory(n).Read(4, 4); !good || !bytes.Equal(w, want) {
			t.Error(n, w, good)
		}
	}
	// Words of the sender that are not good are written as good ones.
	m.Memory(1).Spoil(5, 1)
	m.Window(0, 0)
	if !m.Memory(2).Good(5) {
		t.Error("not good")
	}
	m.Set(1, false, true)
	m.Window(0, 0)
	if w, good, _ := m.Memory(2).Read(5, 2); good || m.Memory(2).Good(5) || m.Memory(2).Good(6) || !m.Memory(2).Good(4) || !m.Memory(2).Good(7) || !bytes.Equal(w, []byte{0x11, 0x12}) || !m.Memory(3).Good(5) {
		t.Error(w, good)
	}
}

// TestFrame: P26.4.
func TestFrame(t *testing.T) {
	m := made(t)
	for n := range 4 {
		m.Set(n, n != 1, true)
		m.Memory(n).Write(0, bytes.Repeat([]byte{byte(n + 1)}, 16))
	}
	m.Frame(0)
	// place 0 is as old as frames went by; place 6 was written by the frame's windows, where one takes it
	for n, age := range []int{1, 0, 1, 1} {
		if m.Memory(n).Age(0) != age || m.Memory(n).Age(6) != 0 {
			t.Error(n, m.Memory(n).Age(0), m.Memory(n).Age(6))
		}
	}
	// 3 sends what 0 sent to it in the window ahead
	if w, _, _ := m.Memory(0).Read(6, 1); w[0] != 1 {
		t.Error(w)
	}
	if w, _, _ := m.Memory(3).Read(5, 2); !bytes.Equal(w, []byte{1, 1}) {
		t.Error(w)
	}
	was := m.Clone()
	m.Frame(1)
	if m.Memory(1).Age(0) != 0 || m.Memory(0).Age(0) != 2 || m.Same(was) {
		t.Error(m.Memory(1).Age(0), m.Memory(0).Age(0))
	}
}

// TestSame: P26.1.
func TestSame(t *testing.T) {
	a, b := made(t), made(t)
	b.Set(2, true, false)
	if !a.Same(b) {
		t.Error("who is in sync does not count")
	}
	b.Memory(3).Write(60, []byte{1})
	if a.Same(b) || b.Same(a) {
		t.Error("the same")
	}
	few, _ := model.New(plan.Schedule{Modules: 2})
	more, _ := model.New(plan.Schedule{Modules: 3})
	if few.Same(more) || more.Same(few) {
		t.Error("more modules")
	}
	for _, none := range []*model.Model{nil, {}} {
		if none.Same(a) || a.Same(none) || !none.Same(nil) || !none.Same(&model.Model{}) {
			t.Error("none")
		}
	}
}

// TestClone: P26.1.
func TestClone(t *testing.T) {
	a := made(t)
	a.Set(0, true, true)
	a.Set(2, true, true)
	a.Memory(0).Write(5, []byte{7, 8})
	c := a.Clone()
	if !c.Same(a) || c.Sender(schedule().Frames[0][0]) != 0 {
		t.Error("not the same")
	}
	c.Frame(0)
	if a.Memory(2).Good(5) || !c.Memory(2).Good(5) {
		t.Error("not another one")
	}
	c.Set(0, false, false)
	if a.Sender(schedule().Frames[0][0]) != 0 {
		t.Error("not another one")
	}
}

// TestNobodyMade: P26.1.
func TestNobodyMade(t *testing.T) {
	for _, m := range []*model.Model{nil, {}} {
		m.Set(0, true, true)
		m.Window(0, 0)
		m.Frame(0)
		if m.Memory(0) != nil || m.Clone() != nil {
			t.Error("of none")
		}
	}
}

// TestAsPlane: P26.5: a plane without faults does as the model.
func TestAsPlane(t *testing.T) {
	s := schedule()
	for may := range 16 {
		p, code := plane.New(plane.Setup{Schedule: s, On: 15})
		if code != api.OK {
			t.Fatal(code)
		}
		m := made(t)
		for n := range 4 {
			m.Set(n, true, may>>n&1 == 1)
			p.Pair(n).Allow(may>>n&1 == 1)
			w := []byte{byte(n), byte(n + 50), byte(n + 100), byte(n + 150)}
			m.Memory(n).Write(4, w)
			p.Pair(n).Memory().Write(4, w)
		}
		for frame := range 3 {
			p.Next(1 << 20)
			m.Frame(0)
			for n := range 4 {
				if !m.Memory(n).Same(p.Pair(n).Memory()) {
					t.Errorf("%d %d %d:\n%s%s", may, frame, n, m.Memory(n).Text(), p.Pair(n).Memory().Text())
				}
			}
		}
	}
}
