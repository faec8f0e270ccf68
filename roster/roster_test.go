package roster_test

import (
	"math"
	"math/rand"
	"slices"
	"testing"

	"busbar/api"
	"busbar/plan"
	"busbar/roster"
	"busbar/valid"
)

func data(from, to []int) plan.Window {
	return plan.Window{Kind: plan.Data, Words: 1, From: from, To: to}
}

// sample has messages at 0, 2 and 4 of version 0, and at 1 of version 1.
func sample() plan.Schedule {
	return plan.Schedule{Modules: 6, Frames: [2][]plan.Window{
		{data([]int{0}, []int{1, 2}), {Kind: plan.Gap, Bits: 3, From: []int{0}, To: []int{1}}, data([]int{3, 0}, []int{2}), {Kind: plan.Short}, data([]int{2, 1}, []int{4})},
		{{Kind: plan.Short}, data([]int{4}, []int{0})},
	}}
}

func want(t *testing.T, got []int, want ...int) {
	t.Helper()
	if !slices.Equal(got, want) {
		t.Error(got, "not", want)
	}
}

// TestSends: P41.1.
func TestSends(t *testing.T) {
	s := sample()
	want(t, roster.Sends(s, 0, 0), 0, 2)
	want(t, roster.Sends(s, 0, 1), 4)
	want(t, roster.Sends(s, 0, 4))
	want(t, roster.Sends(s, 1, 4), 1)
	want(t, roster.Takes(s, 0, 2), 0, 2)
	want(t, roster.Takes(s, 0, 1), 0)
	want(t, roster.Takes(s, 0, 0))
	want(t, roster.Takes(s, 1, 0), 1)
	want(t, roster.Lone(s, 0, 0), 0)
	want(t, roster.Lone(s, 0, 3))
	want(t, roster.Lone(s, 1, 4), 1)
	want(t, roster.Lone(s, 0, 5))
}

// TestHears: P41.2.
func TestHears(t *testing.T) {
	s := sample()
	want(t, roster.Hears(s, 1), 0)
	want(t, roster.Hears(s, 2), 0, 3)
	want(t, roster.Hears(s, 0), 4)
	want(t, roster.Hears(s, 4), 1, 2)
	want(t, roster.Hears(s, 5))
	want(t, roster.Heard(s, 0), 1, 2)
	want(t, roster.Heard(s, 3), 2)
	want(t, roster.Heard(s, 4), 0)
	want(t, roster.Heard(s, 5))
	want(t, roster.Reach(s, 0), 0, 1, 2, 4)
	want(t, roster.Reach(s, 3), 0, 1, 2, 4)
	want(t, roster.Reach(s, 5))
	s.Frames[1] = nil
	want(t, roster.Reach(s, 0), 1, 2, 4)
	want(t, roster.Reach(s, 4))
	want(t, roster.Reach(s, 3), 2, 4)
}

// TestFirst: P41.3.
func TestFirst(t *testing.T) {
	s := sample()
	want(t, roster.First(s, 0), 0, 3, 2)
	want(t, roster.First(s, 0, 0), -1, 3, 2)
	want(t, roster.First(s, 0, 3, 2), 0, 0, 1)
	want(t, roster.First(s, 0, 3, 2, 1, 1, 99, -1), 0, 0, -1)
	want(t, roster.First(s, 1, 4), -1)
	want(t, roster.Backup(s, 0), 0, 2, 4)
	want(t, roster.Backup(s, 0, 0), 2, 4)
	want(t, roster.Backup(s, 0, 0, 3), 4)
	want(t, roster.Backup(s, 0, 2), 0, 2, 4)
	want(t, roster.Backup(s, 1, 4))
	want(t, roster.Backup(s, 1), 1)
}

// TestGrid: P41.4.
func TestGrid(t *testing.T) {
	if got := roster.Grid(sample(), 0); got != "0.1..\nt...1\nt.t.0\n..0..\n....t\n.....\n" {
		t.Errorf("%q", got)
	}
	if got := roster.Grid(sample(), 1); got != ".t\n..\n..\n..\n.0\n..\n" {
		t.Errorf("%q", got)
	}
	if got := roster.Grid(plan.Schedule{Modules: 2}, 1); got != "\n\n" {
		t.Errorf("%q", got)
	}
}

// TestNone: of what may not be.
func TestNone(t *testing.T) {
	bad := sample()
	bad.Frames[1][1].To[0] = 6
	check := func(s plan.Schedule, version, module int, all bool) {
		t.Helper()
		if len(roster.Sends(s, version, module))+len(roster.Takes(s, version, module))+len(roster.Lone(s, version, module)) > 0 {
			t.Error(version, module)
		}
		if all && len(roster.First(s, version))+len(roster.Backup(s, version))+len(roster.Grid(s, version)) > 0 {
			t.Error(version)
		}
	}
	for m := range 6 {
		check(bad, 0, m, true)
		want(t, roster.Hears(bad, m))
		want(t, roster.Heard(bad, m))
		want(t, roster.Reach(bad, m))
		for _, version := range []int{-1, 2, math.MinInt, math.MaxInt} {
			check(sample(), version, m, true)
		}
	}
	for _, m := range []int{-1, 6, math.MinInt, math.MaxInt} {
		check(sample(), 0, m, false)
		want(t, roster.Hears(sample(), m))
		want(t, roster.Heard(sample(), m))
		want(t, roster.Reach(sample(), m))
	}
	check(plan.Schedule{}, 0, 0, true)
}

// TestTogether: P41.5, of schedules by chance.
func TestTogether(t *testing.T) {
	for seed := range int64(300) {
		r := rand.New(rand.NewSource(seed))
		s := plan.Schedule{Modules: 6}
		for version := range 2 {
			for range r.Intn(6) {
				l := r.Perm(6)
				from := 1 + r.Intn(4)
				s.Frames[version] = append(s.Frames[version], data(l[:from], l[from:from+1+r.Intn(6-from)]))
			}
		}
		if valid.Check(s).Code != api.OK {
			continue
		}
		for a := range 6 {
			for b := range 6 {
				if slices.Contains(roster.Hears(s, a), b) != slices.Contains(roster.Heard(s, b), a) {
					t.Fatal(seed, a, b)
				}
				// who is heard of somebody that is reached is reached
				if slices.Contains(roster.Reach(s, a), b) {
					for _, c := range roster.Heard(s, b) {
						if !slices.Contains(roster.Reach(s, a), c) {
							t.Fatal(seed, a, b, c)
						}
					}
				}
			}
			for version := range 2 {
				missed := len(roster.Backup(s, version)) - len(roster.Backup(s, version, a))
				if missed != len(roster.Lone(s, version, a)) {
					t.Fatal(seed, version, a, missed)
				}
				if len(roster.First(s, version, a)) != len(s.Frames[version]) {
					t.Fatal(seed)
				}
			}
		}
	}
}
