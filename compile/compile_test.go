package compile_test

import (
	"bytes"
	"math"
	"slices"
	"testing"

	"busbar/api"
	"busbar/compile"
	"busbar/image"
	"busbar/plan"
	"busbar/walk"
)

func data(words, addr int, from, to []int) plan.Window {
	return plan.Window{Kind: plan.Data, Words: words, Addr: addr, From: from, To: to}
}

// sample is a schedule of which module 0 sends, 1 is another candidate, 2 takes, and 3 does neither.
func sample() plan.Schedule {
	return plan.Schedule{Modules: 4, Frames: [2][]plan.Window{
		{data(2, 5, []int{1, 0}, []int{2}), {Kind: plan.Gap, Bits: 7}, {Kind: plan.Short}},
		{data(1, 9, []int{0}, []int{1, 2})},
	}}
}

// TestFor: P12.1.
func TestFor(t *testing.T) {
	none, code := compile.For(plan.Schedule{Modules: 2}, 1)
	if want := (image.Image{Module: 1, Entry: [2]int{0, 4}, Code: []byte{6, 0, 8, 0, 6, 0, 8, 0, 7}}); code != api.OK || !none.Same(want) {
		t.Error(none, code)
	}
	for module, want := range [][]byte{
		{6, 0, 8, 0, 6, 0, 17, 0, 1, 5, 2, 1, 2, 4, 7, 5, 7, 1, 9, 1, 0, 1, 7},
		{6, 0, 8, 0, 6, 0, 17, 0, 1, 5, 2, 0, 2, 4, 7, 5, 7, 2, 9, 1, 1, 7},
		{6, 0, 8, 0, 6, 0, 16, 0, 2, 5, 2, 2, 4, 7, 5, 7, 2, 9, 1, 1, 7},
		{6, 0, 8, 0, 6, 0, 15, 0, 3, 2, 2, 4, 7, 5, 7, 3, 1, 1, 7},
	} {
		m, code := compile.For(sample(), module)
		if code != api.OK || !m.Same(image.Image{Module: module, Entry: [2]int{0, 4}, Code: want}) {
			t.Error(module, m, code)
		}
	}
	// Both bodies are the same bytes for who neither sends nor takes, though the windows are not alike.
	s := plan.Schedule{Modules: 3, Frames: [2][]plan.Window{{data(1, 5, []int{0}, []int{1})}, {data(1, 7, []int{1}, []int{0})}}}
	if m, code := compile.For(s, 2); code != api.OK || !bytes.Equal(m.Code, []byte{6, 0, 8, 0, 6, 0, 8, 0, 3, 1, 1, 7}) {
		t.Error(m, code)
	}
}

// TestForWrong: P12.1 and P12.3.
func TestForWrong(t *testing.T) {
	for _, module := range []int{-1, 4, math.MinInt, math.MaxInt} {
		if m, code := compile.For(sample(), module); code != api.ErrArg || !m.Same(image.Image{}) {
			t.Error(module, m, code)
		}
	}
	for _, c := range []struct {
		s    plan.Schedule
		want api.Errno
	}{
		{plan.Schedule{}, api.ErrArg}, {plan.Schedule{Modules: -3}, api.ErrArg}, {plan.Schedule{Modules: 2, Frames: [2][]plan.Window{{{Kind: plan.Gap}}}}, api.ErrBig},
		{plan.Schedule{Modules: 2, Frames: [2][]plan.Window{1: {data(1, 0, []int{0}, []int{0})}}}, api.ErrTwice}, {plan.Schedule{Modules: 2, Frames: [2][]plan.Window{slices.Repeat([]plan.Window{{Kind: plan.Gap, Bits: 100}}, 2)}}, api.ErrFar},
	} {
		if m, code := compile.For(c.s, 99); code != c.want || !m.Same(image.Image{}) {
			t.Error(c.s, m, code)
		}
		if l, code := compile.All(c.s); code != c.want || len(l) != 0 {
			t.Error(c.s, l, code)
		}
	}
}

// TestAll: P12.3.
func TestAll(t *testing.T) {
	l, code := compile.All(sample())
	if code != api.OK || len(l) != 4 {
		t.Fatal(len(l), code)
	}
	for module, b := range l {
		m, _ := compile.For(sample(), module)
		if want, _ := m.Put(); !bytes.Equal(b, want) {
			t.Error(module, b, want)
		}
	}
}

// TestLoadWrong: P12.2.
func TestLoadWrong(t *testing.T) {
	put := func(m image.Image) []byte {
		b, code := m.Put()
		if code != api.OK {
			t.Fatal(m, code)
		}
		return b
	}
	spoilt := put(image.Image{Code: []byte{0}})
	spoilt[len(spoilt)-1] ^= 1
	for n, c := range []struct {
		b    []byte
		want api.Errno
	}{
		{nil, api.ErrEnd}, {make([]byte, 11), api.ErrForm}, {spoilt, api.ErrSum},
		{put(image.Image{Code: []byte{0, 9}, Entry: [2]int{0, 1}}), api.ErrForm}, {put(image.Image{Code: []byte{0, 5}, Entry: [2]int{1, 0}}), api.ErrEnd},
		{put(image.Image{Code: []byte{5, 9}, Entry: [2]int{0, 1}}), api.ErrForm}, {put(image.Image{Code: []byte{8, 0, 0, 9}, Entry: [2]int{0, 3}}), api.ErrLong}, {put(image.Image{Code: []byte{8, 0, 0, 9}, Entry: [2]int{3, 0}}), api.ErrForm},
		{put(image.Image{Code: []byte{4, 100, 4, 84, 0}}), api.ErrFar},
	} {
		if p, code := compile.Load(c.b); code != c.want || !p.Same(compile.Program{}) {
			t.Error(n, p, code)
		}
	}
}

// TestLoad: P12.2 and P12.4.
func TestLoad(t *testing.T) {
	s := sample()
	l, _ := compile.All(s)
	for module, b := range l {
		p, code := compile.Load(b)
		if code != api.OK || p.Module != module {
			t.Fatal(module, p, code)
		}
		m, _ := image.Read(b)
		for version := range 2 {
			want := plan.View(s, version, module)
			for n := range want {
				if want[n].Kind == plan.Data && want[n].Cand < 0 && !want[n].Take {
					want[n].Addr = 0
				}
			}
			if !slices.Equal(p.Slots[version], want) {
				t.Errorf("%d %d: %+v", module, version, p.Slots[version])
			}
			if run, _ := walk.Run(m, version); !slices.Equal(p.Slots[version], run) {
				t.Errorf("%d %d: %+v", module, version, run)
			}
			if p.Long(version) != plan.Frame(s, version) {
				t.Error(module, version, p.Long(version))
			}
		}
	}
}

// TestLong: P12.3.
func TestLong(t *testing.T) {
	p := compile.Program{Slots: [2][]plan.Slot{{{Long: 3}, {Long: 4}}, {{Long: 9}}}}
	for _, c := range [][2]int{{0, 7}, {1, 9}, {2, 0}, {-1, 0}, {math.MinInt, 0}, {math.MaxInt, 0}} {
		if got := p.Long(c[0]); got != c[1] {
			t.Error(c, got)
		}
	}
}

// TestSame: P12.5.
func TestSame(t *testing.T) {
	of := func() compile.Program {
		return compile.Program{Module: 1, Slots: [2][]plan.Slot{{{Long: 3}, {Take: true}}, {{Long: 9}}}}
	}
	if !of().Same(of()) || !(compile.Program{}).Same(compile.Program{Slots: [2][]plan.Slot{{}, {}}}) {
		t.Error("not the same")
	}
	for n, change := range []func(p *compile.Program){
		func(p *compile.Program) { p.Module = 2 }, func(p *compile.Program) { p.Slots[0][1].Take = false }, func(p *compile.Program) { p.Slots[1][0].Addr = 1 },
		func(p *compile.Program) { p.Slots[1] = nil }, func(p *compile.Program) { p.Slots[0], p.Slots[1] = p.Slots[1], p.Slots[0] },
	} {
		p := of()
		change(&p)
		if p.Same(of()) || of().Same(p) {
			t.Error(n)
		}
	}
}

// TestDoes: P12.5.
func TestDoes(t *testing.T) {
	l, _ := compile.All(sample())
	p, _ := compile.Load(l[0])
	for _, c := range [][3]int{{0, plan.Long, 1}, {0, plan.Data, 1}, {0, plan.Gap, 1}, {0, plan.Short, 1}, {0, plan.Version, 1}, {1, plan.Short, 0}, {1, plan.Data, 1}, {0, 5, 0}, {0, -1, 0}, {2, plan.Long, 0}, {-1, plan.Long, 0}, {math.MaxInt, 0, 0}} {
		if got := p.Does(c[0], c[1]); got != c[2] {
			t.Error(c, got)
		}
	}
}

// TestTalks: P12.5.
func TestTalks(t *testing.T) {
	l, _ := compile.All(sample())
	for module, want := range [][2]bool{{true, false}, {true, true}, {false, true}, {false, false}} {
		p, _ := compile.Load(l[module])
		if sends, takes := p.Talks(); sends != want[0] || takes != want[1] {
			t.Error(module, sends, takes)
		}
	}
	// Of slots that are no Data, nothing counts.
	p := compile.Program{Slots: [2][]plan.Slot{{{Kind: plan.Gap, Cand: 2, Take: true}}}}
	if sends, takes := p.Talks(); sends || takes {
		t.Error(sends, takes)
	}
}
