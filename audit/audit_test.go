package audit_test

import (
	"math"
	"math/rand"
	"slices"
	"testing"

	"busbar/api"
	"busbar/audit"
	"busbar/budget"
	"busbar/fault"
	"busbar/pair"
	"busbar/plan"
	"busbar/plane"
)

// schedule has a message in slot 2 of version 0, of 0 or 1, for 2 and 3.
func schedule() plan.Schedule {
	return plan.Schedule{Modules: 4, Frames: [2][]plan.Window{{{Kind: plan.Short}, {Kind: plan.Data, Words: 1, From: []int{0, 1}, To: []int{2, 3}}}}}
}

func event(what, module, since, cand int, words ...byte) pair.Event {
	return pair.Event{What: what, Module: module, Slot: 2, Since: since, Cand: cand, Words: words}
}

func sent(module int, words ...byte) pair.Event {
	return event(pair.Sent, module, 500, module, words...)
}
func took(module, cand int, words ...byte) pair.Event {
	return event(pair.Took, module, 501, cand, words...)
}
func missed(module int) pair.Event { return event(pair.Missed, module, 499, -1) }

// TestNames: flaws by their numbers, and P30.2.
func TestNames(t *testing.T) {
	for what, want := range map[int]string{audit.Split: "split", audit.Unlike: "unlike", audit.Wrong: "wrong", audit.Stray: "stray", audit.Twice: "twice", 0: "", 6: "", -1: "", math.MinInt: "", math.MaxInt: ""} {
		if got := audit.Name(what); got != want {
			t.Error(what, got)
		}
	}
	if audit.Split != 1 || audit.Unlike != 2 || audit.Wrong != 3 || audit.Stray != 4 || audit.Twice != 5 {
		t.Error(audit.Split, audit.Unlike, audit.Wrong, audit.Stray, audit.Twice)
	}
}

// TestAll: P30.2.
func TestAll(t *testing.T) {
	a, b := []audit.Flaw{{What: 1, At: 2}}, []audit.Flaw{{What: 3, At: 4}, {What: 1, At: 2}}
	if got := audit.All(a, nil, b); !slices.Equal(got, []audit.Flaw{{What: 1, At: 2}, {What: 3, At: 4}, {What: 1, At: 2}}) {
		t.Error(got)
	}
	got := audit.All(b)
	got[0].At = 99
	if b[0].At != 4 || len(audit.All()) != 0 || len(audit.All(nil, nil)) != 0 {
		t.Error(b)
	}
}

// TestCheck: P30.1.
func TestCheck(t *testing.T) {
	all := []int{0, 1, 2, 3}
	for n, c := range []struct {
		l    []pair.Event
		good []int
		want []int
	}{
		{nil, all, nil}, {[]pair.Event{sent(0, 7), took(2, 0, 7), took(3, 0, 7)}, all, nil}, {[]pair.Event{missed(2), missed(3)}, all, nil},
		{[]pair.Event{took(2, 0, 7), missed(3)}, all, []int{audit.Split}}, {[]pair.Event{took(2, 0, 7), missed(3)}, []int{2}, nil}, {[]pair.Event{took(2, 0, 7), missed(2)}, []int{2}, []int{audit.Split}},
		{[]pair.Event{took(2, 0, 7), took(3, 0, 8)}, all, []int{audit.Unlike}}, {[]pair.Event{took(2, 0, 7), took(3, 1, 7)}, all, []int{audit.Unlike}}, {[]pair.Event{took(2, 0, 7), took(3, 0, 8)}, []int{0, 3}, nil}, {[]pair.Event{took(2, 0, 7), took(2, 0, 8)}, all, nil}, {[]pair.Event{took(2, 0, 7), took(2, 0, 8), took(3, 0, 7)}, all, []int{audit.Unlike}},
		{[]pair.Event{sent(0, 9), took(2, 0, 7)}, all, []int{audit.Wrong}}, {[]pair.Event{sent(0, 9), took(2, 0, 7)}, []int{1, 2, 3}, nil}, {[]pair.Event{sent(0, 9), took(2, 0, 7)}, []int{0, 1, 3}, nil}, {[]pair.Event{sent(0, 9), took(2, 1, 7)}, all, nil}, {[]pair.Event{sent(0, 9), took(2, 5, 7)}, all, nil}, {[]pair.Event{sent(0, 9), took(2, 2, 7)}, all, nil}, {[]pair.Event{sent(0, 9), took(2, -1, 7)}, all, nil}, {[]pair.Event{sent(1, 7, 7), took(2, 1, 7)}, all, []int{audit.Wrong}},
		{[]pair.Event{took(1, 0, 7)}, all, []int{audit.Stray}}, {[]pair.Event{missed(0)}, all, []int{audit.Stray}}, {[]pair.Event{sent(2, 7)}, all, []int{audit.Stray}}, {[]pair.Event{sent(9, 7), missed(2)}, all, nil}, {[]pair.Event{took(1, 0, 7), took(2, 0, 7)}, []int{2}, nil},
		{[]pair.Event{sent(0, 7), sent(1, 8)}, all, []int{audit.Twice}}, {[]pair.Event{sent(0, 7), sent(1, 8)}, []int{0, 2}, nil}, {[]pair.Event{sent(0, 7), sent(0, 8)}, all, nil},
		{[]pair.Event{sent(0, 9), sent(1, 1), took(2, 0, 7), took(3, 0, 8), missed(0)}, all, []int{audit.Split, audit.Unlike, audit.Wrong, audit.Stray, audit.Twice}},
		{[]pair.Event{{What: pair.Died, Module: 0}, {What: pair.Turned, Module: 1, Slot: 3}}, all, nil},
	} {
		var want []audit.Flaw
		for _, what := range c.want {
			want = append(want, audit.Flaw{What: what})
		}
		if got := audit.Check(schedule(), c.l, c.good); !slices.Equal(got, want) {
			t.Error(n, got, want)
		}
	}
}

// TestWindows: P30.1: At is the window's number; windows that the schedule has not are stray, where a good module noted them.
func TestWindows(t *testing.T) {
	at := func(slot, version, since int) pair.Event {
		return pair.Event{What: pair.Missed, Module: 2, Slot: slot, Version: version, Since: since, Cand: -1}
	}
	l := []pair.Event{at(2, 0, 500), at(1, 0, 100), at(2, 1, 500), at(0, 0, 0), at(3, 0, 900), at(2, 0, 5000), at(-5, 0, 1), at(2, 7, 1), at(2, 2, 1), at(2, -1, 1), at(math.MaxInt, 0, 1), at(math.MinInt, 1, 1)}
	var want []audit.Flaw
	for n := range l {
		if n != 0 && n != 5 {
			want = append(want, audit.Flaw{What: audit.Stray, At: n})
		}
	}
	if got := audit.Check(schedule(), l, []int{2}); !slices.Equal(got, want) {
		t.Error(got)
	}
	// An event is of a window up to 100 ticks away from it.
	for _, c := range []struct{ since, flaws int }{{600, 1}, {601, 0}, {400, 1}, {399, 0}} {
		l := []pair.Event{event(pair.Took, 2, 500, 0, 7), event(pair.Took, 3, c.since, 0, 8)}
		if got := audit.Check(schedule(), l, []int{2, 3}); len(got) != c.flaws {
			t.Error(c, got)
		}
		l = []pair.Event{event(pair.Sent, 0, 500, 0, 7), event(pair.Took, 3, c.since, 0, 8)}
		if got := audit.Check(schedule(), l, []int{0, 3}); len(got) != c.flaws {
			t.Error(c, got)
		}
	}
}

// TestNoWindow: P30.1: what is noted of a window that the schedule has not is stray just where a good module noted it.
func TestNoWindow(t *testing.T) {
	for _, at := range []struct{ slot, version int }{{1, 0}, {0, 0}, {3, 0}, {-5, 0}, {math.MaxInt, 0}, {math.MinInt, 0}, {2, 1}, {1, 1}, {2, 2}, {2, -1}, {2, math.MaxInt}, {2, math.MinInt}} {
		for _, what := range []int{pair.Sent, pair.Took, pair.Missed} {
			by := func(modules ...int) []pair.Event {
				var l []pair.Event
				for _, m := range modules {
					l = append(l, pair.Event{What: what, Module: m, Slot: at.slot, Version: at.version, Since: 70, Words: []byte{5}})
				}
				return l
			}
			stray := []audit.Flaw{{What: audit.Stray}}
			for n, c := range []struct {
				modules, good []int
				want          []audit.Flaw
			}{
				{[]int{3}, nil, nil}, {[]int{3}, []int{}, nil}, {[]int{3}, []int{0, 2}, nil}, {[]int{3}, []int{3}, stray}, {[]int{3}, []int{0, 3, 3}, stray},
				{[]int{0, 3}, []int{1, 2}, nil}, {[]int{0, 3}, []int{0}, stray}, {[]int{-1}, []int{0}, nil}, {[]int{-1}, []int{-1}, stray},
			} {
				if got := audit.Check(schedule(), by(c.modules...), c.good); !slices.Equal(got, c.want) {
					t.Error(at, what, n, got, c.want)
				}
			}
			if got := audit.Check(plan.Schedule{}, by(0), nil); len(got) != 0 {
				t.Error(at, what, got)
			}
		}
	}
	// Windows that nobody good noted count for At.
	l := []pair.Event{{What: pair.Missed, Module: 3, Slot: 1}, {What: pair.Missed, Module: 2, Slot: 9}, {What: pair.Sent, Module: 2, Slot: 2}}
	if got := audit.Check(schedule(), l, []int{2}); !slices.Equal(got, []audit.Flaw{{What: audit.Stray, At: 1}, {What: audit.Stray, At: 2}}) {
		t.Error(got)
	}
	// A window that is no Data is none, whoever stands in it.
	s := plan.Schedule{Modules: 4, Frames: [2][]plan.Window{{{Kind: plan.Gap, Bits: 9, From: []int{0}, To: []int{2}}}}}
	l = []pair.Event{{What: pair.Sent, Module: 0, Slot: 1, Words: []byte{5}}, {What: pair.Took, Module: 2, Slot: 1, Words: []byte{6}}}
	for _, c := range []struct{ good, want []int }{{nil, nil}, {[]int{1, 3}, nil}, {[]int{0}, []int{audit.Stray}}, {[]int{2}, []int{audit.Stray}}, {[]int{0, 2}, []int{audit.Stray}}} {
		var want []audit.Flaw
		for _, what := range c.want {
			want = append(want, audit.Flaw{What: what})
		}
		if got := audit.Check(s, l, c.good); !slices.Equal(got, want) {
			t.Error(c, got)
		}
	}
	// Two good modules that sent where there is no window: it is stray once, and twice.
	l = []pair.Event{{What: pair.Sent, Module: 0, Slot: 5}, {What: pair.Sent, Module: 1, Slot: 5}}
	if got := audit.Check(schedule(), l, []int{0, 1}); !slices.Equal(got, []audit.Flaw{{What: audit.Stray}, {What: audit.Twice}}) {
		t.Error(got)
	}
}

// TestMore: P30.3: more good modules have no fewer flaws, and without any there is none.
func TestMore(t *testing.T) {
	for seed := range int64(300) {
		r := rand.New(rand.NewSource(seed))
		var l []pair.Event
		for range 60 {
			l = append(l, pair.Event{What: 1 + r.Intn(4), Module: r.Intn(5), Slot: r.Intn(4), Version: r.Intn(2), Since: r.Intn(600), Cand: r.Intn(3) - 1, Words: []byte{byte(r.Intn(2))}})
		}
		good := r.Perm(5)
		last := 0
		for n := range 6 {
			flaws := audit.Check(schedule(), l, good[:n])
			if len(flaws) < last || n == 0 && len(flaws) > 0 {
				t.Fatal(seed, n, flaws)
			}
			last = len(flaws)
			if !slices.IsSortedFunc(flaws, func(a, b audit.Flaw) int { return (a.At-b.At)*10 + a.What - b.What }) {
				t.Fatal(seed, flaws)
			}
		}
	}
}

// TestPlanes: P30.3: what good modules note has no flaw.
func TestPlanes(t *testing.T) {
	s := plan.Schedule{Modules: 4, Frames: [2][]plan.Window{
		{{Kind: plan.Data, Words: 2, From: []int{0, 1}, To: []int{2, 3}}, {Kind: plan.Data, Words: 1, Addr: 3, From: []int{3}, To: []int{0, 1, 2}}},
		{{Kind: plan.Data, Words: 1, Addr: 9, From: []int{2, 3, 0}, To: []int{1}}},
	}}
	for seed := range int64(30) {
		r := rand.New(rand.NewSource(seed))
		pattern := make([]byte, 1+r.Intn(100))
		r.Read(pattern)
		c := budget.Course{Fault: fault.Fault{Kind: 1 + r.Intn(2), Module: r.Intn(4), Y: r.Intn(2) == 0, Line: r.Intn(4), Pattern: pattern}}
		p, code := plane.New(plane.Setup{Schedule: s, Course: c, Skew: r.Uint32(), On: 15})
		if code != api.OK {
			t.Fatal(code)
		}
		good := p.Good()
		p.Pair(1).Want(seed%2 == 0)
		p.Run(8000)
		l := p.Events()
		if got := audit.Check(s, l, good); len(got) != 0 {
			t.Error(seed, got)
		}
		if len(l) == 0 {
			t.Error("nothing was noted")
		}
	}
}
