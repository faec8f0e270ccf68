package trace_test

import (
	"bytes"
	"math"
	"math/rand"
	"slices"
	"testing"

	"busbar/pair"
	"busbar/trace"
)

func took(module, since, cand int, words ...byte) pair.Event {
	return pair.Event{Module: module, What: pair.Took, Slot: 1, Since: since, Cand: cand, Words: words}
}

func same(a, b trace.Window) bool {
	return a.Slot == b.Slot && a.Version == b.Version && a.Tick == b.Tick && a.Cand == b.Cand && bytes.Equal(a.Words, b.Words) &&
		slices.Equal(a.Sent, b.Sent) && slices.Equal(a.Took, b.Took) && slices.Equal(a.Missed, b.Missed)
}

func want(t *testing.T, got []trace.Window, want ...trace.Window) {
	t.Helper()
	if !slices.EqualFunc(got, want, same) {
		t.Errorf("%+v, not %+v", got, want)
	}
}

// TestWindows: P28.1.
func TestWindows(t *testing.T) {
	want(t, trace.Windows(nil))
	want(t, trace.Windows([]pair.Event{took(1, 500, 0, 7), took(2, 502, 0, 7)}), trace.Window{Slot: 1, Tick: 500, Took: []int{1, 2}, Words: []byte{7}})
	l := []pair.Event{
		{Module: 3, What: pair.Sent, Slot: 2, Version: 1, Since: 1000, Cand: 1, Words: []byte{9}},
		{Module: 5, What: pair.Missed, Slot: 2, Version: 1, Since: 1002, Cand: -1},
		{Module: 9, What: pair.Synced, Slot: 2, Version: 1, Since: 1000},
		{Module: 4, What: pair.Took, Slot: 2, Version: 1, Since: 1001, Cand: 1, Words: []byte{9, 8}},
		{Module: 1, What: pair.Took, Slot: 2, Version: 1, Since: 999, Cand: 2, Words: []byte{7}},
		{Module: 4, What: pair.Took, Slot: 2, Version: 1, Since: 999, Cand: 3},
		{Module: 2, What: pair.Missed, Slot: 2, Version: 1, Since: 999},
		{Module: 2, What: pair.Missed, Slot: 2, Version: 0, Since: 999},
		{Module: 2, What: pair.Missed, Slot: 3, Version: 1, Since: 999},
		{Module: 0, What: 0, Slot: 3, Version: 1, Since: 999}, {Module: 0, What: 8, Slot: 3, Since: 999}, {Module: 0, What: pair.Turned, Slot: 3, Since: 999}, {Module: 0, What: -1},
	}
	want(t, trace.Windows(l),
		trace.Window{Slot: 2, Version: 1, Tick: 1000, Sent: []int{3}, Took: []int{1, 4}, Missed: []int{2, 5}, Cand: 1, Words: []byte{9, 8}},
		trace.Window{Slot: 2, Tick: 999, Missed: []int{2}, Cand: -1}, trace.Window{Slot: 3, Version: 1, Tick: 999, Missed: []int{2}, Cand: -1})
	w := trace.Windows(l)
	w[0].Words[0] = 77
	if l[3].Words[0] != 9 {
		t.Error("the events were changed")
	}
}

// TestNear: P28.1, at 100 ticks from a window, and one beyond.
func TestNear(t *testing.T) {
	for _, c := range []struct{ first, second, windows int }{
		{500, 600, 1}, {500, 601, 2}, {500, 400, 1}, {500, 399, 2}, {0, 100, 1}, {0, -100, 1}, {0, -101, 2}, {-50, 50, 1}, {-51, 50, 2}, {101, 201, 1}, {100, 200, 1}, {-1, -101, 1}, {-1, -102, 2},
		{math.MaxInt, math.MinInt, 2}, {math.MaxInt, math.MaxInt - 100, 1}, {math.MinInt, math.MinInt + 100, 1}, {math.MinInt, math.MinInt + 101, 2}, {math.MaxInt - 101, math.MaxInt, 2},
	} {
		if got := trace.Windows([]pair.Event{took(1, c.first, 0), took(2, c.second, 0)}); len(got) != c.windows {
			t.Error(c, got)
		}
	}
	// Of two windows that an event is of, it is of the last one told.
	w := trace.Windows([]pair.Event{took(1, 600, 0), took(2, 450, 0), took(3, 520, 0)})
	want(t, w, trace.Window{Slot: 1, Tick: 600, Took: []int{1}}, trace.Window{Slot: 1, Tick: 450, Took: []int{2, 3}})
	w = trace.Windows([]pair.Event{took(1, 450, 0), took(2, 600, 0), took(3, 520, 0)})
	want(t, w, trace.Window{Slot: 1, Tick: 450, Took: []int{1}}, trace.Window{Slot: 1, Tick: 600, Took: []int{2, 3}})
}

// naive tells the number of each event's window, as the document has it: the last window that it is of (-1: none).
func naive(l []pair.Event) []int {
	var windows []pair.Event
	var numbers []int
	for _, e := range l {
		number := -1
		if e.What >= pair.Sent && e.What <= pair.Missed {
			for n, w := range windows {
				if w.Slot == e.Slot && w.Version == e.Version && max(w.Since-e.Since, e.Since-w.Since) <= 100 {
					number = n
				}
			}
			if number < 0 {
				number = len(windows)
				windows = append(windows, e)
			}
		}
		numbers = append(numbers, number)
	}
	return numbers
}

// TestJustOne: P28.1, P28.2 and P28.4, of events by chance.
func TestJustOne(t *testing.T) {
	for seed := range int64(200) {
		r := rand.New(rand.NewSource(seed))
		var l []pair.Event
		for range 60 {
			l = append(l, pair.Event{Module: r.Intn(5), What: r.Intn(6), Slot: r.Intn(2), Version: r.Intn(2), Since: r.Intn(1500) - 700, Cand: r.Intn(8) / 7, Words: []byte{byte(r.Intn(8) / 7)}})
		}
		numbers := naive(l)
		windows := trace.Windows(l)
		if len(windows) != slices.Max(numbers)+1 {
			t.Fatal(seed, len(windows))
		}
		alike := true
		for n, w := range windows {
			first := -1
			for k, e := range l {
				if numbers[k] != n {
					continue
				}
				in := map[int][]int{pair.Sent: w.Sent, pair.Took: w.Took, pair.Missed: w.Missed}[e.What]
				if !slices.Contains(in, e.Module) || w.Slot != e.Slot || w.Version != e.Version {
					t.Fatal(seed, n, w, e)
				}
				if e.What != pair.Took {
					continue
				}
				if first < 0 {
					first = k
				}
				alike = alike && l[first].Cand == e.Cand && bytes.Equal(l[first].Words, e.Words)
			}
			if first >= 0 && (w.Cand != l[first].Cand || !bytes.Equal(w.Words, l[first].Words)) || first < 0 && (w.Cand != -1 || len(w.Words) != 0) {
				t.Fatal(seed, n, w)
			}
			if !slices.IsSorted(w.Sent) || !slices.IsSorted(w.Took) || !slices.IsSorted(w.Missed) {
				t.Fatal(seed, w)
			}
		}
		if trace.Alike(l) != alike {
			t.Fatal(seed, alike)
		}
	}
}

// TestAlike: P28.2.
func TestAlike(t *testing.T) {
	missed := pair.Event{Module: 9, What: pair.Missed, Slot: 1, Since: 500, Cand: -1}
	for n, c := range []struct {
		l    []pair.Event
		want bool
	}{
		{nil, true}, {[]pair.Event{took(1, 500, 0, 7), took(2, 502, 0, 7), missed}, true}, {[]pair.Event{took(1, 500, 0, 7), took(2, 502, 1, 7)}, false}, {[]pair.Event{took(1, 500, 0, 7), took(2, 502, 0, 7, 7)}, false},
		{[]pair.Event{took(1, 500, 0, 7), took(1, 502, 0, 8)}, false}, {[]pair.Event{took(1, 500, 0, 7), took(2, 601, 1, 8)}, true},
	} {
		if got := trace.Alike(c.l); got != c.want {
			t.Error(n, got)
		}
	}
}

// TestAgreed: P28.2.
func TestAgreed(t *testing.T) {
	w := trace.Window{Sent: []int{0}, Took: []int{1, 2, 5}, Missed: []int{3, 5}}
	for _, c := range []struct {
		modules []int
		want    bool
	}{{nil, true}, {[]int{1, 2}, true}, {[]int{3}, true}, {[]int{1, 3}, false}, {[]int{3, 0, 2}, false}, {[]int{5}, false}, {[]int{0, 9, -1}, true}, {[]int{0, 1}, true}} {
		if got := w.Agreed(c.modules); got != c.want {
			t.Error(c, got)
		}
	}
}

// TestCount: P28.3.
func TestCount(t *testing.T) {
	l := []pair.Event{{What: 1}, {What: 2}, {What: 2}, {What: 7}, {What: 99}, {What: -1}}
	for what, want := range map[int]int{0: 0, 1: 1, 2: 2, 3: 0, 7: 1, 99: 1, -1: 1} {
		if got := trace.Count(l, what); got != want {
			t.Error(what, got)
		}
	}
}

// TestText: P28.3.
func TestText(t *testing.T) {
	for what, want := range map[int]string{0: "", 1: "sent", 2: "took", 3: "missed", 4: "synced", 5: "lost", 6: "died", 7: "turned", 8: "", -1: "", math.MinInt: "", math.MaxInt: ""} {
		if got := trace.Name(what); got != want {
			t.Error(what, got)
		}
	}
	for want, e := range map[string]pair.Event{
		"719 1 took 1 0 0 a53c": {Tick: 719, Module: 1, What: pair.Took, Slot: 1, Since: 200, Words: []byte{0xa5, 0x3c}},
		"7 3 sent 2 1 3 0b":     {Tick: 7, Module: 3, What: pair.Sent, Slot: 2, Version: 1, Cand: 3, Words: []byte{11}},
		"559 2 missed 4 1 -1":   {Tick: 559, Module: 2, What: pair.Missed, Slot: 4, Version: 1, Cand: -1},
		"-5 -1  -1 -2 3 00ff":   {Tick: -5, Module: -1, What: 9, Slot: -1, Version: -2, Cand: 3, Words: []byte{0, 255}},
		"0 0  0 0 0":            {Words: []byte{}},
	} {
		if got := trace.Text(e); got != want {
			t.Errorf("%q, not %q", got, want)
		}
	}
}
