package campaign_test

import (
	"bytes"
	"math"
	"math/rand"
	"slices"
	"testing"

	"busbar/api"
	"busbar/audit"
	"busbar/budget"
	"busbar/campaign"
	"busbar/diag"
	"busbar/fault"
	"busbar/pair"
	"busbar/plan"
	"busbar/plane"
	"busbar/probe"
	"busbar/replay"
	"busbar/trace"
)

func data(words, addr int, from, to []int) plan.Window {
	return plan.Window{Kind: plan.Data, Words: words, Addr: addr, From: from, To: to}
}

// setup is a plane of four modules, of which the last one is off.
func setup() plane.Setup {
	return plane.Setup{
		Schedule: plan.Schedule{Modules: 4, Frames: [2][]plan.Window{{data(2, 5, []int{0, 1}, []int{2, 3}), data(1, 9, []int{2}, []int{0, 1})}, {data(1, 1, []int{1}, []int{2})}}},
		Course:   budget.Course{Fault: fault.Fault{Kind: fault.Line, Line: 3, Pattern: []byte{1}}, Slips: []budget.Slip{{Module: 1, Tick: 3690, By: 1}}},
		Skew:     0b10010011, On: 7,
	}
}

// TestOne: P44.1, as the layers below tell it.
func TestOne(t *testing.T) {
	for _, f := range append(append(campaign.Lines(), campaign.Sides(4)...), fault.Fault{}) {
		s := setup()
		s.Course.Fault = f
		p, code := plane.New(s)
		if code != api.OK {
			t.Fatal(code)
		}
		good := p.Good()
		w, _ := replay.Record(p, 3700)
		l := p.Events()
		want := campaign.Result{Good: len(p.Good()), Flaws: len(audit.Check(s.Schedule, l, good)), Took: trace.Count(l, pair.Took), Missed: trace.Count(l, pair.Missed), Suspect: diag.Of(probe.Read(s.Schedule, w)).Suspect(), Apart: p.Apart()}
		if got := campaign.One(setup(), f, 3700); got != want {
			t.Error(f, got, want)
		}
	}
	// a line that stands still is suspected, and all is taken; the course's own fault does not count
	got := campaign.One(setup(), fault.Fault{Kind: fault.Line, Line: 1, Pattern: []byte{1}}, 3700)
	if got.Suspect != 1 || got.Took == 0 || got.Missed != 0 || got.Good != 3 || got.Flaws != 0 || got.Apart == 0 || got.Apart > api.Apart {
		t.Error(got)
	}
	if got := campaign.One(setup(), fault.Fault{}, 3700); got.Suspect != -1 || got.Took == 0 {
		t.Error(got)
	}
	for _, ticks := range []int{0, -1, math.MinInt} {
		if got := campaign.One(setup(), fault.Fault{}, ticks); got != (campaign.Result{Good: 3, Suspect: -1}) {
			t.Error(ticks, got)
		}
	}
}

// TestOneWrong: P44.1.
func TestOneWrong(t *testing.T) {
	bad := setup()
	bad.Schedule.Modules = 1
	version := setup()
	version.Version = 7
	near := setup()
	near.Course.Slips = append(near.Course.Slips, budget.Slip{Module: 1, Tick: 3691, By: 1})
	none := fault.Fault{}
	for n, c := range []struct {
		s    plane.Setup
		f    fault.Fault
		want api.Errno
	}{{bad, none, api.ErrArg}, {version, none, api.ErrArg}, {near, none, api.ErrOver}, {setup(), fault.Fault{Kind: 9}, api.ErrArg}, {setup(), fault.Fault{Kind: fault.Side, Module: 4, Pattern: []byte{0}}, api.ErrArg}} {
		if got := campaign.One(c.s, c.f, 100); got != (campaign.Result{Code: int(c.want), Suspect: -1}) {
			t.Error(n, got)
		}
	}
}

// TestAll: P44.1.
func TestAll(t *testing.T) {
	l := []fault.Fault{{}, {Kind: 9}, {Kind: fault.Side, Module: 2, Pattern: []byte{0}}}
	got := campaign.All(setup(), l, 2000)
	if len(got) != 3 || len(campaign.All(setup(), nil, 2000)) != 0 {
		t.Fatal(got)
	}
	for n, f := range l {
		if got[n] != campaign.One(setup(), f, 2000) {
			t.Error(n, got[n])
		}
	}
}

// TestWorst: P44.2.
func TestWorst(t *testing.T) {
	r := func(flaws, missed int) campaign.Result { return campaign.Result{Flaws: flaws, Missed: missed, Good: 1} }
	for n, c := range []struct {
		l     []campaign.Result
		want  int
		sound bool
	}{
		{nil, -1, true}, {[]campaign.Result{r(0, 0)}, 0, true}, {[]campaign.Result{r(0, 1), r(0, 2), r(0, 2)}, 1, true}, {[]campaign.Result{r(0, 9), r(1, 0), r(1, 0)}, 1, false}, {[]campaign.Result{r(1, 5), r(2, 1), r(2, 3), r(2, 3), r(1, 9)}, 2, false}, {[]campaign.Result{r(-5, -5), r(-5, -4)}, 1, true}, {[]campaign.Result{r(math.MinInt, 0), r(math.MaxInt, 0)}, 1, false},
	} {
		if got := campaign.Worst(c.l); got != c.want {
			t.Error(n, got)
		}
		if got := campaign.Sound(c.l); got != c.sound {
			t.Error(n, got)
		}
	}
}

// TestText: P44.2.
func TestText(t *testing.T) {
	l := []campaign.Result{{Code: 2, Suspect: -1}, {0, 3, 4, 50, 6, 2, -1}}
	if got := campaign.Text(l); got != "2 0 0 0 0 -1 0\n0 3 4 50 6 2 -1\n" {
		t.Errorf("%q", got)
	}
	if got := campaign.Text(nil); got != "" {
		t.Errorf("%q", got)
	}
}

// same tells whether two faults are alike.
func same(a, b fault.Fault) bool {
	return a.Kind == b.Kind && a.Module == b.Module && a.Y == b.Y && a.Line == b.Line && a.From == b.From && bytes.Equal(a.Pattern, b.Pattern)
}

// TestFaults: P44.3.
func TestFaults(t *testing.T) {
	var lines, sides []fault.Fault
	for line := range 4 {
		lines = append(lines, fault.Fault{Kind: fault.Line, Line: line, Pattern: []byte{0}}, fault.Fault{Kind: fault.Line, Line: line, Pattern: []byte{1}})
	}
	for m := range 16 {
		for _, y := range []bool{false, true} {
			sides = append(sides, fault.Fault{Kind: fault.Side, Module: m, Y: y, Pattern: []byte{0}}, fault.Fault{Kind: fault.Side, Module: m, Y: y, Pattern: []byte{7}})
		}
	}
	if got := campaign.Lines(); !slices.EqualFunc(got, lines, same) {
		t.Error(got)
	}
	for _, c := range [][2]int{{2, 8}, {1, 4}, {0, 0}, {-1, 0}, {16, 64}, {17, 64}, {math.MinInt, 0}, {math.MaxInt, 64}} {
		if got := campaign.Sides(c[0]); !slices.EqualFunc(got, sides[:c[1]], same) {
			t.Error(c, len(got))
		}
	}
	campaign.Lines()[0].Pattern[0] = 9
	if campaign.Lines()[0].Pattern[0] != 0 {
		t.Error("what is handed out is not new")
	}
}

// TestSound: P44.4.
func TestSound(t *testing.T) {
	s := setup()
	s.On = 15
	l := append(campaign.Lines(), campaign.Sides(4)...)
	for seed := range int64(20) {
		r := rand.New(rand.NewSource(seed))
		f := fault.Fault{Kind: 1 + r.Intn(2), Module: r.Intn(4), Y: r.Intn(2) == 0, Line: r.Intn(4), From: r.Intn(2000), Pattern: make([]byte, 1+r.Intn(200))}
		r.Read(f.Pattern)
		l = append(l, f)
	}
	first, second := campaign.All(s, l, 5000), campaign.All(s, l, 5000)
	if !campaign.Sound(first) || !slices.Equal(first, second) {
		t.Error(campaign.Text(first))
	}
	for n, r := range first {
		if r.Code != 0 || r.Good < 3 || r.Apart > api.Apart {
			t.Error(n, r)
		}
	}
}
