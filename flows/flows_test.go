package flows_test

import (
	"math"
	"math/rand"
	"slices"
	"testing"

	"busbar/api"
	"busbar/flows"
	"busbar/plan"
	"busbar/valid"
)

func flow(words, addr, every int, from, to []int) flows.Flow {
	return flows.Flow{From: from, To: to, Words: words, Addr: addr, Every: every}
}

var (
	zero = []int{0}
	one  = []int{1}
)

func same(a, b []plan.Window) bool {
	return plan.Same(plan.Schedule{Frames: [2][]plan.Window{a}}, plan.Schedule{Frames: [2][]plan.Window{b}})
}

// TestWindow: P34.1.
func TestWindow(t *testing.T) {
	f := flow(3, 9, 2, []int{0, 2}, []int{1})
	w := f.Window()
	want := plan.Window{Kind: plan.Data, Words: 3, Addr: 9, From: []int{0, 2}, To: []int{1}}
	if !same([]plan.Window{w}, []plan.Window{want}) {
		t.Error(w)
	}
	w.From[0], w.To[0] = 7, 7
	if f.From[0] != 0 || f.To[0] != 1 {
		t.Error(f)
	}
	l := []plan.Window{want, want, {Kind: plan.Short}, want, want, want, want, want, want}
	l[1].Words = 2
	l[3].Addr = 8
	l[4].From = []int{2, 0}
	l[5].To = []int{1, 3}
	l[6].Bits = 1
	l[7].Kind = plan.Gap
	if got := flows.Count(l, f); got != 2 {
		t.Error(got)
	}
	if flows.Count(nil, f) != 0 || flows.Count([]plan.Window{{}}, flows.Flow{Every: 3}) != 1 {
		t.Error("few")
	}
}

// TestBuildWrong: P34.2.
func TestBuildWrong(t *testing.T) {
	fine := flow(1, 0, 1, zero, one)
	for n, c := range []struct {
		modules, version int
		l                []flows.Flow
		at               int
		want             api.Errno
	}{
		{1, 0, []flows.Flow{{}}, -1, api.ErrArg}, {17, 0, nil, -1, api.ErrArg}, {math.MinInt, 0, nil, -1, api.ErrArg}, {math.MaxInt, 0, nil, -1, api.ErrArg}, {2, 2, nil, -1, api.ErrArg}, {2, -1, nil, -1, api.ErrArg},
		{2, 0, []flows.Flow{fine, flow(1, 0, 0, nil, nil)}, 1, api.ErrBig}, {2, 0, []flows.Flow{flow(1, 0, 17, zero, one)}, 0, api.ErrBig}, {2, 0, []flows.Flow{flow(1, 0, math.MinInt, zero, one)}, 0, api.ErrBig}, {2, 0, []flows.Flow{flow(1, 0, math.MaxInt, zero, one)}, 0, api.ErrBig},
		{2, 1, []flows.Flow{fine, fine, flow(9, 0, 1, zero, one)}, 2, api.ErrBig}, {2, 1, []flows.Flow{flow(1, 0, 1, zero, zero), flow(1, 0, 99, zero, one)}, 0, api.ErrTwice}, {2, 0, []flows.Flow{flow(1, 0, 1, zero, []int{2})}, 0, api.ErrArg},
		{2, 0, slices.Repeat([]flows.Flow{fine}, 33), -1, api.ErrLong}, {2, 0, []flows.Flow{flow(1, 0, 16, zero, one), flow(1, 1, 16, zero, one), fine}, -1, api.ErrLong}, {2, 0, append(slices.Repeat([]flows.Flow{fine}, 33), flow(1, 0, 0, zero, one)), 33, api.ErrBig},
	} {
		if l, at, code := flows.Build(c.modules, c.version, c.l); code != c.want || at != c.at || len(l) != 0 {
			t.Error(n, l, at, code)
		}
	}
}

// TestBuild: P34.2.
func TestBuild(t *testing.T) {
	a, b, c := flow(1, 0, 3, zero, one), flow(2, 9, 1, one, zero), flow(1, 4, 2, zero, one)
	l, at, code := flows.Build(2, 0, []flows.Flow{a, b, c})
	// 10 + 18 + 26 + 18 + 18 + 18 + 18 bits, without a pulse: 126 and 6 bits
	want := []plan.Window{a.Window(), b.Window(), c.Window(), a.Window(), c.Window(), a.Window()}
	if code != api.OK || at != -1 || !same(l, want) {
		t.Error(l, at, code)
	}
	l[0].From[0] = 9
	if a.From[0] != 0 || l[3].From[0] != 0 {
		t.Error("shared")
	}
	if l, at, code := flows.Build(2, 1, nil); code != api.OK || at != -1 || len(l) != 0 {
		t.Error(l, at, code)
	}
	if l, _, code := flows.Build(2, 1, []flows.Flow{flow(1, 0, 2, zero, one)}); code != api.OK || len(l) != 2 {
		t.Error(l, code)
	}
	often := flow(1, 0, 16, zero, one)
	if l, _, code := flows.Build(16, 1, []flows.Flow{often}); code != api.OK || flows.Count(l, often) != 16 {
		t.Error(l, code)
	}
	// as many messages as fit are, with the Shorts between them, 32 windows
	many := slices.Repeat([]flows.Flow{flow(1, 0, 1, zero, one)}, 40)
	most := 0
	for n := range many {
		if l, _, code := flows.Build(2, 0, many[:n]); code == api.OK {
			most = max(most, len(l))
		}
	}
	if most != 32 {
		t.Error(most)
	}
}

// TestShorts: P34.2, at the last bit that still fits, and one beyond.
func TestShorts(t *testing.T) {
	short := plan.Window{Kind: plan.Short}
	// From the pulse of Long on: 7 bits (9 in version 1), the windows, and 9 bits: 184 bits fit (182 in version 1).
	big := flow(8, 0, 1, zero, one) // 74 bits
	six := flow(2, 0, 1, zero, one) // 26 bits
	for version, fits := range []int{184, 182} {
		for words := 1; words <= 8; words++ {
			last := flow(words, 0, 1, zero, one)
			l, _, code := flows.Build(2, version, []flows.Flow{big, six, six, last, six})
			bits := 74 + 26 + 26 + 10 + 8*words
			want := []plan.Window{big.Window(), six.Window(), six.Window()}
			switch {
			case bits > fits:
				want = append(want, short, last.Window(), six.Window())
			case bits+26 > fits:
				want = append(want, last.Window(), short, six.Window())
			default:
				want = append(want, last.Window(), six.Window())
			}
			if code != api.OK || !same(l, want) {
				t.Error(version, words, l, code)
			}
		}
	}
	// From a Short's pulse on: 4 bits, the windows, and 9 bits.
	l, _, _ := flows.Build(2, 0, slices.Repeat([]flows.Flow{big}, 6))
	if want := []plan.Window{big.Window(), big.Window(), short, big.Window(), big.Window(), short, big.Window(), big.Window()}; !same(l, want) {
		t.Error(l)
	}
}

// naive is Tight as the document has it.
func naive(l []plan.Window, version int) []plan.Window {
	if version < 0 || version > 1 {
		return nil
	}
	far := func(l []plan.Window) bool { return slices.Max(valid.Spans(l, version)) > api.MaxSpan }
	left := slices.Clone(l)
	if far(left) {
		return left
	}
	for n := 0; n < len(left); {
		without := slices.Delete(slices.Clone(left), n, n+1)
		if left[n].Kind == plan.Short && !far(without) {
			left = without
		} else {
			n++
		}
	}
	return left
}

// TestTight: P34.3, of windows by chance.
func TestTight(t *testing.T) {
	for seed := range int64(2000) {
		r := rand.New(rand.NewSource(seed))
		var l []plan.Window
		for range r.Intn(14) {
			w := plan.Window{Kind: plan.Short}
			switch r.Intn(6) {
			case 0, 1:
				w = plan.Window{Kind: plan.Gap, Bits: r.Intn(110)}
			case 2:
				w = flow(1+r.Intn(8), 0, 1, zero, one).Window()
			case 3:
				if r.Intn(4) == 0 {
					w = plan.Window{Kind: 7}
				}
			}
			l = append(l, w)
		}
		for version := -1; version < 3; version++ {
			was := plan.Clone(plan.Schedule{Frames: [2][]plan.Window{l}}).Frames[0]
			got := flows.Tight(l, version)
			if !same(got, naive(l, version)) {
				t.Fatal(seed, version, l, got)
			}
			for n := range got {
				for k := range got[n].From {
					got[n].From[k] = 99
				}
			}
			if !same(l, was) {
				t.Fatal(seed, "what was handed in was changed")
			}
		}
	}
	for _, version := range []int{math.MinInt, math.MaxInt} {
		if got := flows.Tight([]plan.Window{{}}, version); len(got) != 0 {
			t.Error(got)
		}
	}
}

// TestBoth: P34.4.
func TestBoth(t *testing.T) {
	a, b := []flows.Flow{flow(1, 0, 2, zero, one)}, []flows.Flow{flow(2, 0, 1, one, zero)}
	s, code := flows.Both(2, a, b)
	first, _, _ := flows.Build(2, 0, a)
	second, _, _ := flows.Build(2, 1, b)
	if code != api.OK || !plan.Same(s, plan.Schedule{Modules: 2, Frames: [2][]plan.Window{first, second}}) {
		t.Error(s, code)
	}
	big, twice := []flows.Flow{flow(9, 0, 1, zero, one)}, []flows.Flow{flow(1, 0, 1, zero, zero)}
	for _, c := range []struct {
		modules       int
		first, second []flows.Flow
		want          api.Errno
	}{{1, a, b, api.ErrArg}, {2, big, twice, api.ErrBig}, {2, twice, big, api.ErrTwice}, {2, a, big, api.ErrBig}} {
		if s, code := flows.Both(c.modules, c.first, c.second); code != c.want || !plan.Same(s, plan.Schedule{}) {
			t.Error(c, s, code)
		}
	}
}

// TestMayBe: P34.5, of flows by chance.
func TestMayBe(t *testing.T) {
	built := 0
	for seed := range int64(500) {
		r := rand.New(rand.NewSource(seed))
		var all [2][]flows.Flow
		for version := range 2 {
			for n := range 1 + r.Intn(6) {
				m := r.Perm(6)
				all[version] = append(all[version], flow(1+r.Intn(8), n, 1+r.Intn(6), m[:1+r.Intn(4)], m[4:]))
			}
		}
		s, code := flows.Both(6, all[0], all[1])
		if code == api.ErrLong {
			continue
		}
		built++
		if fault := valid.Check(s); code != api.OK || fault != (valid.Fault{}) {
			t.Fatal(seed, code, fault)
		}
		for version, l := range s.Frames {
			for _, f := range all[version] {
				if got := flows.Count(l, f); got != f.Every {
					t.Fatal(seed, f, got)
				}
			}
			if tight := flows.Tight(l, version); !same(tight, l) {
				t.Fatal(seed, version, l, tight)
			}
		}
	}
	if built < 100 {
		t.Error(built)
	}
}
