package health_test

import (
	"math"
	"slices"
	"testing"

	"busbar/health"
	"busbar/pair"
	"busbar/plan"
	"busbar/trace"
)

// events are some of all kinds, and of three modules.
func events() []pair.Event {
	var l []pair.Event
	for what := range 9 {
		for m := range 3 {
			for range what + m {
				l = append(l, pair.Event{Module: m, What: what})
			}
		}
	}
	return l
}

// TestOf: P33.1.
func TestOf(t *testing.T) {
	l := events()
	if got := health.Of(l); got != (health.Health{}) {
		t.Error(got)
	}
	for m := range 3 {
		want := health.Health{Sent: 1 + m, Took: 2 + m, Missed: 3 + m, Synced: 4 + m, Lost: 5 + m, Died: 6 + m, Turned: 7 + m}
		if got := health.Of(l, m); got != want {
			t.Error(m, got)
		}
		if got := health.Of(l, m, m, 99, m); got != want {
			t.Error(m, got)
		}
	}
	if got := health.Of(l, 0, 2); got != (health.Health{Sent: 4, Took: 6, Missed: 8, Synced: 10, Lost: 12, Died: 14, Turned: 16}) {
		t.Error(got)
	}
	if got := health.Of(l, -1, 3, math.MaxInt); got != (health.Health{}) {
		t.Error(got)
	}
}

// TestSum: P33.1 and P33.5.
func TestSum(t *testing.T) {
	l := events()
	sum := health.Of(l, 0).Sum(health.Of(l, 1)).Sum(health.Of(l, 2))
	if sum != health.Of(l, 2, 1, 0) || sum.Sum(health.Health{}) != sum {
		t.Error(sum)
	}
	for what, many := range map[int]int{pair.Sent: sum.Sent, pair.Took: sum.Took, pair.Missed: sum.Missed, pair.Synced: sum.Synced, pair.Lost: sum.Lost, pair.Died: sum.Died, pair.Turned: sum.Turned} {
		if many != trace.Count(l, what) {
			t.Error(what, many)
		}
	}
	a, b := health.Health{1, 2, 3, 4, 5, 6, 7}, health.Health{10, 20, 30, 40, 50, 60, 70}
	if got := a.Sum(b); got != (health.Health{11, 22, 33, 44, 55, 66, 77}) {
		t.Error(got)
	}
}

// TestFit: P33.2.
func TestFit(t *testing.T) {
	for _, c := range [][3]int{{0, 0, 1000}, {5, 0, 1000}, {0, 5, 0}, {1, 2, 333}, {2, 1, 666}, {999, 1, 999}, {1, 1999, 0}, {1, 999, 1}} {
		if got := (health.Health{Took: c[0], Missed: c[1], Sent: 9}).Fit(); got != c[2] {
			t.Error(c, got)
		}
	}
	(health.Health{Took: 5, Missed: -5}).Fit()
	(health.Health{Took: math.MinInt, Missed: math.MaxInt}).Fit()
}

// TestSilent: P33.3.
func TestSilent(t *testing.T) {
	data := func(from ...int) plan.Window { return plan.Window{Kind: plan.Data, From: from, To: []int{9}, Words: 1} }
	s := plan.Schedule{Modules: 10, Frames: [2][]plan.Window{{data(5, 1), data(2), {Kind: plan.Short}, data(), data(7, 5)}, {data(1)}}}
	event := func(what, slot, version, since, cand int) pair.Event {
		return pair.Event{What: what, Module: 9, Slot: slot, Version: version, Since: since, Cand: cand}
	}
	missed := func(slot, version, since int) pair.Event { return event(pair.Missed, slot, version, since, -1) }
	for n, c := range []struct {
		l    []pair.Event
		want []int
	}{
		{nil, nil}, {[]pair.Event{missed(1, 0, 0)}, []int{5}}, {[]pair.Event{missed(2, 0, 0), missed(1, 0, 0), missed(2, 0, 900), missed(5, 0, 0), missed(1, 1, 0)}, []int{1, 2, 5, 7}},
		{[]pair.Event{missed(1, 0, 0), event(pair.Took, 1, 0, 1000, 0)}, nil}, {[]pair.Event{event(pair.Took, 5, 0, 1000, 1), missed(1, 0, 0)}, nil}, {[]pair.Event{missed(1, 0, 0), event(pair.Took, 1, 0, 1000, 1)}, []int{5}}, {[]pair.Event{missed(1, 0, 0), event(pair.Took, 1, 0, 1000, 9)}, []int{5}}, {[]pair.Event{missed(1, 0, 0), event(pair.Took, 1, 0, 1000, 2)}, []int{5}}, {[]pair.Event{missed(1, 0, 0), event(pair.Took, 1, 0, 1000, -1)}, []int{5}},
		{[]pair.Event{missed(1, 0, 0), event(pair.Took, 1, 0, 50, 1)}, nil}, {[]pair.Event{event(pair.Sent, 1, 0, 0, 0)}, nil}, {[]pair.Event{event(pair.Sent, 1, 0, 0, 0), missed(1, 0, 0)}, []int{5}},
		{[]pair.Event{missed(3, 0, 0), missed(4, 0, 0), missed(0, 0, 0), missed(6, 0, 0), missed(2, 1, 0), missed(1, 2, 0), missed(1, -1, 0), missed(math.MinInt, 0, 0), missed(math.MaxInt, 0, 0)}, nil},
	} {
		if got := health.Silent(s, c.l); !slices.Equal(got, c.want) {
			t.Error(n, got, c.want)
		}
	}
}

// TestText: P33.4.
func TestText(t *testing.T) {
	if got := (health.Health{}).Text(); got != "sent 0 took 0 missed 0 synced 0 lost 0 died 0 turned 0" {
		t.Error(got)
	}
	if got := (health.Health{1, 22, -3, 4, math.MinInt, 6, math.MaxInt}).Text(); got != "sent 1 took 22 missed 0 synced 4 lost 0 died 6 turned 9223372036854775807" {
		t.Error(got)
	}
}
