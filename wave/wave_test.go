package wave_test

import (
	"math"
	"math/rand"
	"slices"
	"strings"
	"testing"

	"busbar/api"
	"busbar/wave"
	"busbar/wires"
)

// ticks tells a wave's, one by one, as the document has it: those of its runs, the first 2^20 of them.
func ticks(w wave.Wave) []wires.Lines {
	var l []wires.Lines
	for _, run := range w {
		for n := 0; n < run.Ticks && len(l) < 1<<20; n++ {
			l = append(l, run.L%16)
		}
	}
	return l
}

// isClean tells whether a wave is, and has just these ticks.
func isClean(t *testing.T, w wave.Wave, want []wires.Lines) {
	t.Helper()
	for n, run := range w {
		if run.Ticks < 1 || run.L > 15 || n > 0 && w[n-1].L == run.L {
			t.Fatal("not clean:", w)
		}
	}
	if !slices.Equal(ticks(w), want) {
		t.Fatal(w, want)
	}
}

// some are waves of all sorts.
func some() []wave.Wave {
	l := []wave.Wave{nil, {}, {{5, 2}, {0, 1}}, {{5, 2}, {5, 3}}, {{0xf5, 2}, {5, 0}, {0x15, 1}, {9, -7}, {9, math.MinInt}}, {{3, 0}}}
	r := rand.New(rand.NewSource(1))
	for range 40 {
		var w wave.Wave
		for range r.Intn(12) {
			w = append(w, wave.Run{L: wires.Lines(r.Intn(256)) & wires.Lines(r.Intn(256)), Ticks: r.Intn(6) - 1})
		}
		l = append(l, w)
	}
	return l
}

// TestTicks: P37.1.
func TestTicks(t *testing.T) {
	for _, w := range some() {
		want := ticks(w)
		if w.Long() != len(want) {
			t.Fatal(w, w.Long())
		}
		for tick := -3; tick < len(want)+3; tick++ {
			l, ok := w.At(tick)
			if is := tick >= 0 && tick < len(want); ok != is || is && l != want[tick] || !is && l != 0 {
				t.Fatal(w, tick, l, ok)
			}
		}
		n := 0
		for tick, l := range w.Ticks() {
			if tick != n || l != want[n] {
				t.Fatal(w, tick, l)
			}
			n++
		}
		if n != len(want) {
			t.Fatal(w, n)
		}
		for stop := range want {
			n := 0
			for tick := range w.Ticks() {
				n++
				if tick == stop {
					break
				}
			}
			if n != stop+1 {
				t.Fatal(w, n, stop)
			}
		}
		for line := -1; line < 6; line++ {
			high := 0
			for _, l := range want {
				if l.High(line) {
					high++
				}
			}
			if got := w.High(line); got != high {
				t.Fatal(w, line, got)
			}
		}
	}
	for _, tick := range []int{math.MinInt, math.MaxInt} {
		if l, ok := (wave.Wave{{5, 9}}).At(tick); ok || l != 0 {
			t.Error(l, ok)
		}
	}
}

// TestSame: P37.1.
func TestSame(t *testing.T) {
	l := some()
	for _, a := range l {
		for _, b := range l {
			if got := a.Same(b); got != slices.Equal(ticks(a), ticks(b)) {
				t.Fatal(a, b, got)
			}
		}
	}
}

// TestMake: P37.2.
func TestMake(t *testing.T) {
	l := some()
	for _, w := range l {
		was := slices.Clone(w)
		want := ticks(w)
		isClean(t, w.Clean(), want)
		isClean(t, wave.Of(want...), want)
		for _, one := range []wires.Lines{0, 5, 0xf5, 15} {
			isClean(t, w.Add(one), append(slices.Clone(want), one%16))
		}
		for from := -2; from < len(want)+3; from++ {
			for to := -2; to < len(want)+3; to++ {
				a, b := min(max(from, 0), len(want)), min(max(to, 0), len(want))
				isClean(t, w.Cut(from, to), want[min(a, b):b])
			}
		}
		isClean(t, w.Cut(math.MinInt, math.MaxInt), want)
		isClean(t, w.Cut(math.MaxInt, math.MinInt), nil)
		for _, o := range l {
			isClean(t, wave.Join(w, o, nil, w), slices.Concat(want, ticks(o), want))
		}
		if !slices.Equal(w, was) {
			t.Fatal("what was handed in was changed", w, was)
		}
	}
	isClean(t, wave.Of(0xff, 0x0f, 0xf0), []wires.Lines{15, 15, 0})
	if w := wave.Join(); len(w) != 0 {
		t.Error(w)
	}
	// Spare room of what is handed in is not written.
	spare := wave.Wave{{1, 1}, {2, 1}}
	spare[:1].Add(1)
	spare[:1].Add(9)
	if spare[1] != (wave.Run{2, 1}) {
		t.Error(spare)
	}
}

// TestMost: P37.1 and P37.2, at 2^20 ticks.
func TestMost(t *testing.T) {
	full := wave.Wave{{1, 1 << 20}}
	for _, w := range []wave.Wave{
		{{1, 1<<20 + 1}}, {{1, math.MaxInt}}, {{1, math.MaxInt}, {2, math.MaxInt}}, full.Add(1), full.Add(2), wave.Join(full, full), wave.Join(full, wave.Wave{{7, 1}}), {{1, 1<<20 - 1}, {1, 5}, {2, 1}},
	} {
		if w.Long() != 1<<20 || !w.Same(full) || w.High(0) != 1<<20 || len(w.Clean()) != 1 {
			t.Error(w, w.Long())
		}
		if _, ok := w.At(1 << 20); ok {
			t.Error(w)
		}
	}
	w := wave.Join(wave.Wave{{1, 1<<20 - 3}}, wave.Wave{{2, 9}})
	if !slices.Equal(w, wave.Wave{{1, 1<<20 - 3}, {2, 3}}) {
		t.Error(w)
	}
}

// TestText: P37.3 and P37.4.
func TestText(t *testing.T) {
	for want, w := range map[string]wave.Wave{"-": nil, "2x5 1x0": wave.Of(5, 5, 0), "1xf": {{0xff, 1}}, "3x5": {{5, 1}, {9, 0}, {5, 2}}, "1048576xa": {{10, math.MaxInt}}} {
		if got := w.Text(); got != want {
			t.Errorf("%q, not %q", got, want)
		}
	}
	for _, w := range some() {
		got, code := wave.Parse(w.Text())
		if code != api.OK || got.Text() != w.Text() {
			t.Fatal(w, got, code)
		}
		isClean(t, got, ticks(w))
	}
	for _, s := range []string{
		"", " ", "--", "- ", " -", "2x5 ", " 2x5", "2x5  1x0", "2x5 1x5", "0x5", "2x", "x5", "2x55", "2xg", "2xA", "02x5", "-2x5", "+2x5", "2X5", "2 x5", "2x5\n", "2x5 -", "- 2x5", "2x5,1x0", "1048577x1", "1048576x1 1x2", "99999999999999999999x1", "2x5x", "2x\x00", "2xx5",
	} {
		if w, code := wave.Parse(s); code != api.ErrScript || len(w) != 0 {
			t.Errorf("%q: %v %d", s, w, code)
		}
	}
	if w, code := wave.Parse("1048575x1 1x2"); code != api.OK || w.Long() != 1<<20 {
		t.Error(w, code)
	}
}

// TestCutJoin: P37.4.
func TestCutJoin(t *testing.T) {
	for _, w := range some() {
		for at := range w.Long() + 1 {
			if got := wave.Join(w.Cut(0, at), w.Cut(at, w.Long())); !got.Same(w) || !slices.Equal(got, w.Clean()) {
				t.Fatal(w, at, got)
			}
		}
	}
}

// TestPicture: P37.5.
func TestPicture(t *testing.T) {
	w := wave.Of(1, 1, 3, 3, 9, 0, 0)
	for per, want := range map[int]string{
		1: "#####..\n..##...\n.......\n....#..\n", 2: "##+.\n.#..\n....\n..+.\n", 3: "#+.\n++.\n...\n.+.\n", 7: "+\n+\n.\n+\n", 8: "+\n+\n.\n+\n", math.MaxInt: "+\n+\n.\n+\n", 0: "", -1: "", math.MinInt: "",
	} {
		if got := w.Picture(per); got != want {
			t.Errorf("%d: %q", per, got)
		}
	}
	if got := (wave.Wave{}).Picture(5); got != "\n\n\n\n" {
		t.Errorf("%q", got)
	}
	long := wave.Wave{{15, 4096}, {0, 1}}
	if got := long[:1].Picture(1); got != strings.Repeat(strings.Repeat("#", 4096)+"\n", 4) {
		t.Error(len(got))
	}
	if got := long.Picture(1); got != "" {
		t.Error(len(got))
	}
	if got := (wave.Wave{{15, 8193}}).Picture(2); got != strings.Repeat(strings.Repeat("#", 4097)+"\n", 4) {
		t.Error(len(got))
	}
	if got := (wave.Wave{{15, 8194}}).Picture(2); got != "" {
		t.Error(len(got))
	}
}
