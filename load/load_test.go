package load_test

import (
	"math"
	"math/rand"
	"slices"
	"testing"

	"busbar/api"
	"busbar/load"
	"busbar/plan"
	"busbar/valid"
)

func data(words, addr int, from, to []int) plan.Window {
	return plan.Window{Kind: plan.Data, Words: words, Addr: addr, From: from, To: to, Bits: 77}
}

func sample() plan.Schedule {
	return plan.Schedule{Modules: 4, Frames: [2][]plan.Window{
		{data(2, 5, []int{0, 1}, []int{2}), {Kind: plan.Gap, Bits: 7, Words: 9, From: []int{0}, To: []int{0}}, {Kind: plan.Short, Words: 3}, data(3, 6, []int{2}, []int{0, 3}), {Kind: plan.Gap, Bits: 5}},
		{data(8, 56, []int{3}, []int{0}), {Kind: plan.Short}, {Kind: plan.Short}},
	}}
}

// none are schedules and versions of which nothing is told.
func none(t *testing.T, ask func(s plan.Schedule, version int) bool) {
	t.Helper()
	bad := sample()
	bad.Frames[1][0].To[0] = 9
	for version := range 2 {
		if !ask(bad, version) || !ask(plan.Schedule{}, version) {
			t.Error("of a schedule that may not be")
		}
	}
	for _, version := range []int{-1, 2, math.MinInt, math.MaxInt} {
		if !ask(sample(), version) {
			t.Error(version)
		}
	}
}

// TestOf: P31.1.
func TestOf(t *testing.T) {
	if got := load.Of(plan.Schedule{Modules: 2}, 0); got != (load.Load{All: 16, Pulses: 6, Rest: 10}) {
		t.Error(got)
	}
	if got := load.Of(plan.Schedule{Modules: 2}, 1); got != (load.Load{All: 18, Pulses: 8, Rest: 10}) {
		t.Error(got)
	}
	all := 10 + 30 + 7 + 6 + 34 + 5 + 6
	if got := load.Of(sample(), 0); got != (load.Load{Words: 40, Pulses: 8, Gaps: 12, All: all, Rest: all - 60}) {
		t.Error(got)
	}
	all = 12 + 74 + 6 + 6 + 6
	if got := load.Of(sample(), 1); got != (load.Load{Words: 64, Pulses: 12, All: all, Rest: all - 76}) {
		t.Error(got)
	}
	none(t, func(s plan.Schedule, version int) bool { return load.Of(s, version) == load.Load{} })
}

// TestShare: P31.1.
func TestShare(t *testing.T) {
	for _, c := range []struct {
		l    load.Load
		want int
	}{{load.Of(sample(), 0), 40000 / 98}, {load.Of(sample(), 1), 64000 / 104}, {load.Load{}, 0}, {load.Load{Words: 5}, 0}, {load.Load{Words: 5, All: -5}, 0}, {load.Load{Words: 1, All: 1}, 1000}, {load.Load{Words: 1, All: 3}, 333}, {load.Load{Words: 2, All: 3}, 666}, {load.Load{Words: 8, All: 8}, 1000}} {
		if got := c.l.Share(); got != c.want {
			t.Error(c, got)
		}
	}
	(load.Load{Words: math.MaxInt, All: 1}).Share()
	(load.Load{Words: math.MinInt, All: math.MinInt}).Share()
}

// TestSends: P31.2.
func TestSends(t *testing.T) {
	for version, want := range [][][2]int{{{2, 3}, {2, 0}, {3, 2}, {0, 3}}, {{0, 8}, {0, 0}, {0, 0}, {8, 0}}} {
		for m, w := range want {
			if sends, takes := load.Sends(sample(), version, m), load.Takes(sample(), version, m); sends != w[0] || takes != w[1] {
				t.Error(version, m, sends, takes)
			}
		}
		for _, m := range []int{-1, 4, math.MinInt, math.MaxInt} {
			if load.Sends(sample(), version, m) != 0 || load.Takes(sample(), version, m) != 0 {
				t.Error(version, m)
			}
		}
	}
	none(t, func(s plan.Schedule, version int) bool {
		return load.Sends(s, version, 0) == 0 && load.Takes(s, version, 0) == 0 && load.Sends(s, version, 3) == 0
	})
}

// TestAddrs: P31.3.
func TestAddrs(t *testing.T) {
	if got := load.Addrs(sample(), 0); got != 4 {
		t.Error(got)
	}
	if got := load.Clashes(sample(), 0); !slices.Equal(got, []int{6}) {
		t.Error(got)
	}
	if load.Addrs(sample(), 1) != 8 || len(load.Clashes(sample(), 1)) != 0 {
		t.Error(load.Addrs(sample(), 1))
	}
	s := plan.Schedule{Modules: 2, Frames: [2][]plan.Window{{data(2, 62, []int{0}, []int{1}), data(2, 0, []int{0}, []int{1}), data(1, 63, []int{1}, []int{0}), data(1, 1, []int{1}, []int{0}), data(1, 1, []int{1}, []int{0})}}}
	if got := load.Clashes(s, 0); !slices.Equal(got, []int{1, 63}) || load.Addrs(s, 0) != 4 {
		t.Error(got)
	}
	none(t, func(s plan.Schedule, version int) bool {
		return load.Addrs(s, version) == 0 && len(load.Clashes(s, version)) == 0
	})
}

// TestIdle: P31.4.
func TestIdle(t *testing.T) {
	if got := load.Idle(plan.Schedule{Modules: 2}, 0); got != 184 {
		t.Error(got)
	}
	if got := load.Idle(sample(), 0); got != 200-slices.Max(valid.Spans(sample().Frames[0], 0)) || got != 200-52 {
		t.Error(got)
	}
	s := plan.Schedule{Modules: 2, Frames: [2][]plan.Window{{{Kind: plan.Gap, Bits: 100}, {Kind: plan.Gap, Bits: 84}}}}
	if got := load.Idle(s, 0); got != 0 {
		t.Error(got)
	}
	none(t, func(s plan.Schedule, version int) bool { return load.Idle(s, version) == 0 })
}

// TestParts: P31.5, of schedules by chance.
func TestParts(t *testing.T) {
	for seed := range int64(300) {
		r := rand.New(rand.NewSource(seed))
		s := plan.Schedule{Modules: 5}
		for version := range 2 {
			for range r.Intn(6) {
				switch r.Intn(3) {
				case 0:
					s.Frames[version] = append(s.Frames[version], plan.Window{Kind: plan.Gap, Bits: 1 + r.Intn(20)})
				case 1:
					s.Frames[version] = append(s.Frames[version], plan.Window{Kind: plan.Short})
				default:
					l := r.Perm(5)
					s.Frames[version] = append(s.Frames[version], data(1+r.Intn(3), r.Intn(60), l[:1+r.Intn(4)], l[4:]))
				}
			}
		}
		if valid.Check(s).Code != api.OK {
			continue
		}
		for version := range 2 {
			l := load.Of(s, version)
			if l.Words+l.Pulses+l.Gaps+l.Rest != l.All || l.All*20 != plan.Frame(s, version) || l.Rest < 0 {
				t.Fatal(seed, l)
			}
			sends, takes := 0, 0
			for m := range 5 {
				sends += load.Sends(s, version, m)
				takes += load.Takes(s, version, m)
			}
			if (l.Words > 0) != (takes > 0) || (sends > 0) != (takes > 0) || 8*takes < l.Words {
				t.Fatal(seed, sends, takes)
			}
		}
	}
}
