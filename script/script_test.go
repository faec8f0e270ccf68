package script_test

import (
	"bytes"
	"math"
	"slices"
	"strings"
	"testing"

	"busbar/api"
	"busbar/biu"
	"busbar/pair"
	"busbar/plan"
	"busbar/plane"
	"busbar/script"
	"busbar/trace"
)

// TestKinds: acts by their numbers.
func TestKinds(t *testing.T) {
	for n, kind := range []int{script.Write, script.Allow, script.Deny, script.Want, script.Off, script.On} {
		if n != kind {
			t.Error(n, kind)
		}
	}
}

func same(a, b script.Act) bool {
	return a.Tick == b.Tick && a.Kind == b.Kind && a.Module == b.Module && a.At == b.At && bytes.Equal(a.Words, b.Words)
}

// TestRight: P29.1.
func TestRight(t *testing.T) {
	write := script.Act{Kind: script.Write, Words: []byte{1}}
	for n, c := range []struct {
		change func(a *script.Act)
		write  bool // whether a write is right
		other  bool // whether another act is
	}{
		{func(a *script.Act) {}, true, true}, {func(a *script.Act) { a.Tick = 1<<31 - 1 }, true, true}, {func(a *script.Act) { a.Tick = 1 << 31 }, false, false}, {func(a *script.Act) { a.Tick = -1 }, false, false},
		{func(a *script.Act) { a.Module = 1<<31 - 1 }, true, true}, {func(a *script.Act) { a.Module = 1 << 31 }, false, false}, {func(a *script.Act) { a.Module = math.MinInt }, false, false},
		{func(a *script.Act) { a.At = 1<<31 - 1 }, true, true}, {func(a *script.Act) { a.At = 1 << 31 }, false, true}, {func(a *script.Act) { a.At = -1 }, false, true},
		{func(a *script.Act) { a.Words = nil }, false, true}, {func(a *script.Act) { a.Words = make([]byte, 64) }, true, true}, {func(a *script.Act) { a.Words = make([]byte, 65) }, false, true},
	} {
		for kind := range 6 {
			a := write
			a.Kind = kind
			c.change(&a)
			want := c.other
			if kind == script.Write {
				want = c.write
			}
			if got := script.Right(a); got != want {
				t.Error(n, kind, got)
			}
			if got := script.Text(a); (got != "") != want {
				t.Error(n, kind, got)
			}
		}
	}
	for _, kind := range []int{-1, 6, math.MinInt, math.MaxInt} {
		a := write
		a.Kind = kind
		if script.Right(a) || script.Text(a) != "" {
			t.Error(kind)
		}
	}
}

// TestText: P29.1 and P29.5.
func TestText(t *testing.T) {
	for line, a := range map[string]script.Act{
		"0 write 1 3 0aff":             {Module: 1, At: 3, Words: []byte{0x0a, 0xff}},
		"17 allow 2":                   {Tick: 17, Kind: script.Allow, Module: 2},
		"2147483647 deny 0":            {Tick: 1<<31 - 1, Kind: script.Deny},
		"5 want 2147483647":            {Tick: 5, Kind: script.Want, Module: 1<<31 - 1},
		"5 off 10":                     {Tick: 5, Kind: script.Off, Module: 10},
		"5 on 15":                      {Tick: 5, Kind: script.On, Module: 15},
		"9 write 0 2147483647 00":      {Tick: 9, At: 1<<31 - 1, Words: []byte{0}},
		"9 write 0 0 0123456789abcdef": {Tick: 9, Words: []byte{0x01, 0x23, 0x45, 0x67, 0x89, 0xab, 0xcd, 0xef}},
	} {
		if got := script.Text(a); got != line {
			t.Errorf("%q, not %q", got, line)
		}
		if got, code := script.Parse(line); code != api.OK || !same(got, a) {
			t.Error(line, got, code)
		}
	}
	a := script.Act{Kind: script.On, At: 5, Words: []byte{1}}
	if got, code := script.Parse(script.Text(a)); code != api.OK || !same(got, script.Act{Kind: script.On}) {
		t.Error(got, code)
	}
	long := "0 write 0 0 " + strings.Repeat("5a", 64)
	if got, code := script.Parse(long); code != api.OK || len(got.Words) != 64 || script.Text(got) != long {
		t.Error(got, code)
	}
}

// TestParseWrong: P29.1.
func TestParseWrong(t *testing.T) {
	for _, s := range []string{
		"", " ", "0", "0 on", "0 on ", "0 on 1 ", " 0 on 1", "0  on 1", "0 on  1", "0 on 1 2", "0 on 1 2 00", "00 on 1", "01 on 1", "0 on 01", "-1 on 1", "+1 on 1", "0 ON 1", "0 go 1", "0 on x", "2147483648 on 1", "0 on 2147483648", "0 on 1\n", "0\ton 1", "# 0 on 1",
		"0 write 1 3", "0 write 1 3 ", "0 write 1 3 0", "0 write 1 3 0AFF", "0 write 1 3 0g", "0 write 1 03 00", "0 write 1 -3 00", "0 write 1 2147483648 00", "0 write 1 3 00 00", "0 write 1  3 00", "0 write 1 3 " + strings.Repeat("00", 65), "0 write 1", "99999999999999999999 on 1",
	} {
		if a, code := script.Parse(s); code != api.ErrScript || !same(a, script.Act{}) {
			t.Errorf("%q: %+v %d", s, a, code)
		}
	}
}

// TestLines: P29.2.
func TestLines(t *testing.T) {
	l, n, code := script.Lines("# first\n\n0 on 1\n#\n5 write 0 3 0a\n")
	if code != api.OK || n != 0 || len(l) != 2 || !same(l[0], script.Act{Kind: script.On, Module: 1}) || !same(l[1], script.Act{Tick: 5, At: 3, Words: []byte{10}}) {
		t.Error(l, n, code)
	}
	for s, want := range map[string]int{"x": 1, "0 on 1\n x": 2, "# a\n\n0 on 1 \n0 on": 3, "0 on 1\n\n\n #": 4, "0 on 1\r\n": 1} {
		if l, n, code := script.Lines(s); code != api.ErrScript || n != want || len(l) != 0 {
			t.Errorf("%q: %v %d %d", s, l, n, code)
		}
	}
	for _, s := range []string{"", "\n", "\n\n#x", "#"} {
		if l, n, code := script.Lines(s); code != api.OK || n != 0 || len(l) != 0 {
			t.Errorf("%q: %v %d %d", s, l, n, code)
		}
	}
}

// setup is a plane of three modules, of which the last one has no table.
func setup() plane.Setup {
	w := plan.Window{Kind: plan.Data, Words: 1, Addr: 5, From: []int{0}, To: []int{1}}
	return plane.Setup{Schedule: plan.Schedule{Modules: 3, Frames: [2][]plan.Window{{w}, {w}}}, On: 7, Spoilt: 4}
}

func made(t *testing.T) *plane.Plane {
	t.Helper()
	p, code := plane.New(setup())
	if code != api.OK {
		t.Fatal(code)
	}
	return p
}

// TestDo: P29.3.
func TestDo(t *testing.T) {
	p := made(t)
	for n, c := range []struct {
		p    *plane.Plane
		a    script.Act
		want api.Errno
	}{
		{nil, script.Act{Kind: 9, Module: 9}, api.ErrNil}, {&plane.Plane{}, script.Act{Kind: script.On}, api.ErrNil},
		{p, script.Act{Kind: 6}, api.ErrArg}, {p, script.Act{Kind: -1, Module: 2}, api.ErrArg}, {p, script.Act{Kind: script.On, Module: 3}, api.ErrArg}, {p, script.Act{Kind: script.On, Module: -1}, api.ErrArg}, {p, script.Act{Kind: script.On, Module: math.MaxInt}, api.ErrArg},
		{p, script.Act{Kind: script.On, Module: 2}, api.ErrNone}, {p, script.Act{Module: 2, At: 99}, api.ErrNone},
		{p, script.Act{At: 64, Words: []byte{1}}, api.ErrArg}, {p, script.Act{At: 0}, api.ErrArg}, {p, script.Act{At: -1, Words: []byte{1}}, api.ErrArg},
		{p, script.Act{At: 7, Words: []byte{1, 2}, Tick: -99}, api.OK},
	} {
		if got := script.Do(c.p, c.a); got != c.want {
			t.Error(n, got)
		}
	}
	if w, good, _ := p.Pair(0).Memory().Read(7, 2); !good || !bytes.Equal(w, []byte{1, 2}) {
		t.Error(w, good)
	}
	do := func(kind, module int) {
		t.Helper()
		if code := script.Do(p, script.Act{Kind: kind, Module: module}); code != api.OK {
			t.Error(kind, code)
		}
	}
	do(script.Want, 1)
	if !p.Pair(1).Wants() || p.Pair(0).Wants() {
		t.Error("want")
	}
	do(script.Off, 1)
	if p.Pair(1).Unit(false).State() != biu.Off {
		t.Error("off")
	}
	do(script.On, 1)
	if p.Pair(1).Unit(true).State() != biu.Listen {
		t.Error("on")
	}
	do(script.Deny, 0)
	if p.Run(400); trace.Count(p.Events(), pair.Sent) != 0 {
		t.Error("deny")
	}
	do(script.Allow, 0)
	if p.Run(680); trace.Count(p.Events(), pair.Sent) == 0 {
		t.Error("allow")
	}
}

// TestRun: P29.4.
func TestRun(t *testing.T) {
	acts := []script.Act{
		{Tick: 700, Kind: script.Deny}, {Tick: 0, At: 5, Words: []byte{1}}, {Tick: 0, At: 5, Words: []byte{2}}, {Tick: 100, Kind: script.Want, Module: 1}, {Tick: 5, Module: 2, At: 0, Words: []byte{1}}, {Tick: -1, Kind: script.Off}, {Tick: 5000, Kind: script.Off}, {Tick: 1500, Kind: script.Off, Module: 1},
	}
	was := slices.Clone(acts)
	p := made(t)
	p.Run(0)
	got := script.Run(p, acts, 2000)
	if p.Tick() != 2000 || !slices.EqualFunc(acts, was, same) {
		t.Error(p.Tick(), acts)
	}
	// the same, act by act
	q := made(t)
	var want []pair.Event
	for tick := range 2000 {
		for _, a := range acts {
			if a.Tick == tick {
				script.Do(q, a)
			}
		}
		q.Step()
		want = append(want, q.Events()...)
	}
	if len(got) < 4 || !slices.EqualFunc(got, want, func(a, b pair.Event) bool { return trace.Text(a) == trace.Text(b) && a.Since == b.Since }) {
		t.Error(got, want)
	}
	if took := slices.IndexFunc(got, func(e pair.Event) bool { return e.What == pair.Took }); got[took].Words[0] != 2 {
		t.Error(got[took])
	}
	for _, ticks := range []int{0, -1, math.MinInt} {
		if l := script.Run(p, acts, ticks); len(l) != 0 || p.Tick() != 2000 {
			t.Error(ticks, l)
		}
	}
	for _, none := range []*plane.Plane{nil, {}} {
		if l := script.Run(none, acts, 10); len(l) != 0 {
			t.Error(l)
		}
	}
}

// TestMost: P29.4: a run has MaxTicks ticks at most.
func TestMost(t *testing.T) {
	p, _ := plane.New(plane.Setup{Schedule: plan.Schedule{Modules: 2}})
	script.Run(p, nil, math.MaxInt)
	if p.Tick() != api.MaxTicks {
		t.Error(p.Tick())
	}
}

// TestPieces: P29.5.
func TestPieces(t *testing.T) {
	acts, _, _ := script.Lines("0 write 0 5 a1\n300 want 0\n700 deny 0\n900 write 0 5 b2\n1100 allow 0\n1200 off 1\n1300 on 1")
	whole := script.Run(made(t), acts, 5000)
	for _, cut := range []int{1, 300, 719, 1201, 4999} {
		p := made(t)
		got := script.Run(p, acts, cut)
		var later []script.Act
		for _, a := range acts {
			a.Tick -= cut
			later = append(later, a)
		}
		got = append(got, script.Run(p, later, 5000-cut)...)
		if !slices.EqualFunc(got, whole, func(a, b pair.Event) bool { return trace.Text(a) == trace.Text(b) }) {
			t.Error(cut, got, whole)
		}
	}
}

// TestPlay: P29.4.
func TestPlay(t *testing.T) {
	p := made(t)
	if got := script.Play(p, "0 on 1\n0 of 1", 100); strings.TrimSuffix(got, "\n") != "wrong 2" || p.Tick() != 0 {
		t.Errorf("%q", got)
	}
	want := "230 0 sent 1 0 0 0a\n559 1 took 1 0 0 0a\n"
	if got := script.Play(p, "# a script\n0 write 0 5 0aff", 600); got != want || p.Tick() != 600 {
		t.Errorf("%q", got)
	}
	if got := script.Play(made(t), "", 100); got != "" {
		t.Errorf("%q", got)
	}
	if got := script.Play(nil, "", 100); got != "" {
		t.Errorf("%q", got)
	}
}
