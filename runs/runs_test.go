package runs_test

import (
	"math"
	"slices"
	"testing"

	"busbar/runs"
	"busbar/wires"
)

// TestNew: P6.1.
func TestNew(t *testing.T) {
	r := runs.New()
	for line := range 4 {
		if r.Of(line) != 0 {
			t.Error(line)
		}
	}
	if r.Run() != 0 || r.Rose() || r.Fell() != 0 || r.Since() != 0 {
		t.Error(r.Run(), r.Rose(), r.Fell())
	}
}

// TestExample: P6.1 and P6.2.
func TestExample(t *testing.T) {
	r := runs.New()
	for n, want := range []int{1, 2, 3} {
		r.See(7)
		if r.Run() != want || r.Rose() != (n == 0) || r.Fell() != 0 {
			t.Error(n, r.Run(), r.Rose(), r.Fell())
		}
	}
	r.See(15)
	if r.Run() != 4 || r.Rose() || r.Of(3) != 1 || r.Of(0) != 4 {
		t.Error(r.Run(), r.Rose(), r.Of(3), r.Of(0))
	}
	r.See(3)
	if r.Run() != 0 || r.Fell() != 4 || r.Rose() {
		t.Error(r.Run(), r.Fell(), r.Rose())
	}
	r.See(3)
	if r.Run() != 0 || r.Fell() != 0 {
		t.Error(r.Run(), r.Fell())
	}
}

// walk tells lines that a number alone decides.
func walk(seed int) func() wires.Lines {
	x := uint32(seed)*2654435761 + 1
	return func() wires.Lines {
		x = x*1664525 + 1013904223
		if x>>28 < 11 {
			return 15 &^ (1 << (x >> 20 & 3))
		}
		return wires.Lines(x >> 24)
	}
}

// TestSee: P6.1 to P6.4, against runs that are counted anew from all that was seen.
func TestSee(t *testing.T) {
	for seed := range 20 {
		r, next := runs.New(), walk(seed)
		var of [4]int
		was, most := 0, 0
		for tick := range 400 {
			l := next()
			r.See(l)
			for line := range of {
				of[line]++
				if l>>line&1 == 0 {
					of[line] = 0
				}
				if r.Of(line) != of[line] {
					t.Fatal(seed, tick, line, r.Of(line), of)
				}
			}
			sorted := slices.Sorted(slices.Values(of[:]))
			run := sorted[1]
			most = max(most, run)
			fell := 0
			if run == 0 {
				fell = was
			}
			if r.Run() != run || r.Rose() != (run > 0 && was == 0) || r.Fell() != fell {
				t.Fatal(seed, tick, run, r.Run(), r.Rose(), r.Fell())
			}
			if l.Count() < 3 && r.Run() != 0 {
				t.Fatal(seed, tick, l, r.Run())
			}
			if tick%17 == 16 {
				if got := r.Since(); got != most {
					t.Fatal(seed, tick, got, most)
				}
				if got := r.Since(); got != 0 {
					t.Fatal(seed, tick, got)
				}
				most = 0
			}
			was = run
		}
	}
}

// TestSince: P6.3.
func TestSince(t *testing.T) {
	r := runs.New()
	for range 5 {
		r.See(15)
	}
	r.See(0)
	if got := r.Since(); got != 5 {
		t.Error(got)
	}
	if got := r.Since(); got != 0 {
		t.Error(got)
	}
	for range 3 {
		r.See(15)
	}
	r.Since()
	r.See(15)
	if got := r.Since(); got != 4 {
		t.Error(got)
	}
}

// TestOneOtherwise: P6.4.
func TestOneOtherwise(t *testing.T) {
	for line := range 4 {
		r := runs.New()
		for tick := range 60 {
			r.See(wires.Lines(15).Set(line, tick%3 == 0))
			if r.Run() != tick+1 {
				t.Fatal(line, tick, r.Run())
			}
		}
	}
}

// TestNone: P6.1, of lines that are none, and of runs that nobody made.
func TestNone(t *testing.T) {
	r := runs.New()
	r.See(255)
	for _, line := range []int{-1, 4, math.MinInt, math.MaxInt} {
		if r.Of(line) != 0 {
			t.Error(line, r.Of(line))
		}
	}
	r = runs.New()
	r.See(0xf0)
	if r.Run() != 0 || r.Of(0) != 0 {
		t.Error(r.Run())
	}
	for _, r := range []*runs.Runs{nil, {}} {
		r.See(15)
		if r.Run() != 0 || r.Rose() || r.Fell() != 0 || r.Of(0) != 0 || r.Since() != 0 {
			t.Error(r.Run(), r.Rose(), r.Fell(), r.Of(0))
		}
	}
}
