package plane_test

import (
	"bytes"
	"fmt"
	"math/rand"
	"slices"
	"testing"

	"busbar/api"
	"busbar/biu"
	"busbar/budget"
	"busbar/fault"
	"busbar/gate"
	"busbar/pair"
	"busbar/plan"
	"busbar/plane"
	"busbar/store"
	"busbar/valid"
)

// anySchedule tells one that may be, by chance.
func anySchedule(r *rand.Rand) plan.Schedule {
	for {
		s := plan.Schedule{Modules: 2 + r.Intn(15)}
		if r.Intn(2) == 0 {
			s.Modules = 2 + r.Intn(4)
		}
		for version := range s.Frames {
			for range r.Intn(8) {
				s.Frames[version] = append(s.Frames[version], anyWindow(r, s.Modules))
			}
		}
		if valid.Check(s).Code == api.OK {
			return s
		}
	}
}

// anyWindow tells a window that may be.
func anyWindow(r *rand.Rand, modules int) plan.Window {
	switch r.Intn(6) {
	case 0:
		return plan.Window{Kind: plan.Short}
	case 1:
		return plan.Window{Kind: plan.Gap, Bits: 1 + r.Intn(100)}
	}
	l := r.Perm(modules)
	from := 1 + r.Intn(min(4, modules-1))
	to := 1 + r.Intn(modules-from)
	w := plan.Window{Kind: plan.Data, Words: 1 + r.Intn(3), From: l[:from:from], To: l[from : from+to]}
	if r.Intn(4) == 0 {
		w.Words = 1 + r.Intn(8)
	}
	w.Addr = r.Intn(65 - w.Words)
	return w
}

// anyFault tells one that may be.
func anyFault(r *rand.Rand, modules, ticks int) fault.Fault {
	f := fault.Fault{Kind: r.Intn(3), Module: r.Intn(modules), Y: r.Intn(2) == 0, Line: r.Intn(4)}
	if r.Intn(2) == 0 {
		f.From = r.Intn(ticks)
	}
	f.Pattern = make([]byte, 1+r.Intn(256))
	b := byte(r.Intn(256))
	kind := r.Intn(5)
	for n := range f.Pattern {
		switch kind {
		case 0: // always the same
		case 1: // well, but for some ticks now and then
			if b = 0xfe; r.Intn(20) == 0 {
				b = byte(r.Intn(8))
			}
		case 2: // the same for some ticks in a row
			if r.Intn(15) == 0 {
				b = byte(r.Intn(256))
			}
		case 3: // it lets all, and drives what it likes
			b = byte(r.Intn(4)) | 4
		default:
			b = byte(r.Intn(256))
		}
		f.Pattern[n] = b
	}
	return f
}

// anySlips tells some that may be, as near to one another as they may.
func anySlips(r *rand.Rand, modules, ticks int) []budget.Slip {
	var l []budget.Slip
	for m := range modules {
		for _, y := range []bool{false, true} {
			by := 1 - 2*r.Intn(2)
			same := r.Intn(2) == 0
			for tick := r.Intn(api.SlipGap); tick < ticks; tick += api.SlipGap + r.Intn(3)*r.Intn(500) {
				if !same {
					by = 1 - 2*r.Intn(2)
				}
				l = append(l, budget.Slip{Module: m, Y: y, Tick: tick, By: by})
			}
		}
	}
	return l
}

// anySetup tells one that may be.
func anySetup(r *rand.Rand, ticks int) plane.Setup {
	s := plane.Setup{Schedule: anySchedule(r), Skew: r.Uint32(), On: 0xffff, Version: r.Intn(2)}
	switch r.Intn(3) {
	case 0:
		s.Skew = 0
	case 1:
		s.On = uint16(r.Intn(1 << 16))
	}
	if r.Intn(5) == 0 {
		s.Spoilt = uint16(r.Intn(1<<16)) & uint16(r.Intn(1<<16))
	}
	s.Course.Fault = anyFault(r, s.Schedule.Modules, ticks)
	if r.Intn(4) > 0 {
		s.Course.Slips = anySlips(r, s.Schedule.Modules, ticks)
	}
	return s
}

// watcher holds what a plane does against the promises of the whole.
type watcher struct {
	p      *plane.Plane
	s      plane.Setup
	good   []int          // healthy modules that are to stay in sync
	mixed  int            // ticks since which two versions are followed
	shadow []*store.Store // what memories must have
	waits  map[int]int    // since when a module is on, and not in sync
	offs   map[int][]int  // when a module was powered off
	since  map[int]int    // when a module of good came to be in sync
	bound  int
	events []pair.Event
}

func newWatcher(s plane.Setup) (*watcher, error) {
	p, code := plane.New(s)
	if code != api.OK {
		return nil, code
	}
	w := &watcher{p: p, s: s, good: p.Good(), waits: map[int]int{}, offs: map[int][]int{}, since: map[int]int{}}
	w.bound = 2*max(plan.Frame(s.Schedule, 0), plan.Frame(s.Schedule, 1)) + 400
	for range p.Modules() {
		w.shadow = append(w.shadow, store.New())
	}
	return w, nil
}

// host does something to a module, by chance.
func (w *watcher) host(r *rand.Rand) {
	m := r.Intn(w.p.Modules())
	one := w.p.Pair(m)
	if one.Module() < 0 {
		return
	}
	switch r.Intn(200) {
	case 0, 1, 2, 3, 4:
		b := make([]byte, 1+r.Intn(8))
		r.Read(b)
		at := r.Intn(57)
		one.Memory().Write(at, b)
		w.shadow[m].Write(at, b)
	case 5:
		one.Allow(r.Intn(3) > 0)
	case 6:
		one.Want(w.s.Skew%3 == 0 && r.Intn(2) == 0)
	case 7:
		if w.p.Healthy(m) && one.Unit(false).State() == biu.Off {
			one.Power(true)
			w.waits[m] = w.p.Tick()
		}
	case 8:
		if r.Intn(5) == 0 && w.p.Healthy(m) && w.other(m) {
			one.Power(false)
			w.shadow[m].Spoil(0, api.MaxAddr)
			delete(w.waits, m)
			w.offs[m] = append(w.offs[m], w.p.Tick())
			delete(w.since, m)
			w.good = slices.DeleteFunc(w.good, func(n int) bool { return n == m })
		}
	}
}

// other tells whether another module than one has been in sync for long enough to pulse, so that no pulse is cut off where this one is powered off.
func (w *watcher) other(m int) bool {
	return slices.ContainsFunc(w.good, func(n int) bool { return n != m && w.p.Tick()-w.since[n] > w.bound })
}

// step lets a tick go by, and tells what is broken.
func (w *watcher) step() error {
	let := w.lets()
	w.p.Step()
	events := w.p.Events()
	w.events = append(w.events, events...)
	for _, check := range []func() error{
		func() error { return w.stay() },
		func() error { return w.near() },
		func() error { return w.talk() },
		func() error { return w.alone(let) },
		func() error { return w.keep(events) },
		func() error { return w.back() },
	} {
		if err := check(); err != nil {
			return fmt.Errorf("tick %d: %w", w.p.Tick()-1, err)
		}
	}
	return nil
}

// stay is of W3: who is in sync stays so.
func (w *watcher) stay() error {
	now := w.p.Good()
	for _, m := range w.good {
		if !slices.Contains(now, m) {
			return fmt.Errorf("W3: module %d is in sync no more", m)
		}
	}
	for _, m := range now {
		if !slices.Contains(w.good, m) {
			w.since[m] = w.p.Tick()
		}
	}
	w.good = now
	return nil
}

// near is of W3 and W6: all units are near one another, in frames of one version, but for the few ticks in which they turn.
func (w *watcher) near() error {
	var versions [2]int
	for _, m := range w.good {
		versions[w.p.Pair(m).Unit(false).Version()]++
		versions[w.p.Pair(m).Unit(true).Version()]++
	}
	if versions[0] > 0 && versions[1] > 0 {
		if w.mixed++; w.mixed > api.Apart {
			return fmt.Errorf("W6: two versions are followed")
		}
		return nil
	}
	w.mixed = 0
	if apart := w.p.Apart(); apart > api.Apart {
		return fmt.Errorf("W3: %d ticks apart", apart)
	}
	return nil
}

// talk is of W3: no two healthy ones talk.
func (w *watcher) talk() error {
	talkers := slices.DeleteFunc(w.p.Bus().Talkers(), func(m int) bool { return !w.p.Healthy(m) })
	if len(talkers) > 1 {
		return fmt.Errorf("W3: %v talk", talkers)
	}
	return nil
}

// lets tells of each unit that has no fault whether it is in a time of its module, or at most 4 ticks beside one.
func (w *watcher) lets() [][2]bool {
	l := make([][2]bool, w.p.Modules())
	for m := range l {
		for u, y := range []bool{false, true} {
			unit := w.p.Pair(m).Unit(y)
			s := unit.Slot()
			_, place := unit.Place()
			pulses := s.Kind != plan.Data || s.Take
			faulty := w.s.Course.Fault.Of(m) && w.s.Course.Fault.Y == y
			l[m][u] = faulty || unit.State() == biu.Sync && gate.Opens(s, gate.Role{Sends: s.Cand >= 0, Cand: s.Cand, Pulses: pulses}, place)
		}
	}
	return l
}

// alone is W4: what a unit drives comes to the lines just where its partner is in such a time; and of W6: a module without a table is silent.
func (w *watcher) alone(let [][2]bool) error {
	for m := range w.p.Modules() {
		drove := w.p.Bus().Drove(m)
		if drove != 0 && w.p.Pair(m).Module() < 0 {
			return fmt.Errorf("W6: module %d drives without a table", m)
		}
		for u, y := range []bool{false, true} {
			if drove.Side(y) != 0 && !(let[m][1-u] && let[m][u]) && !(w.s.Course.Fault.Of(m) && let[m][1-u]) {
				return fmt.Errorf("W4: module %d drives %d", m, drove)
			}
		}
	}
	return nil
}

// keep is of W1: memories have what was taken, and what was there.
func (w *watcher) keep(events []pair.Event) error {
	for _, e := range events {
		if e.What != pair.Took && e.What != pair.Missed {
			continue
		}
		win := w.s.Schedule.Frames[e.Version][e.Slot-1]
		if e.What == pair.Took {
			w.shadow[e.Module].Write(win.Addr, e.Words)
		} else {
			w.shadow[e.Module].Spoil(win.Addr, win.Words)
		}
	}
	if w.p.Tick()%97 != 0 {
		return nil
	}
	for m, s := range w.shadow {
		if w.p.Pair(m).Module() >= 0 && w.p.Pair(m).Memory().Text() != s.Text() {
			return fmt.Errorf("W1: module %d keeps otherwise", m)
		}
	}
	return nil
}

// back is W5.
func (w *watcher) back() error {
	for m, since := range w.waits {
		if w.p.Pair(m).InSync() {
			delete(w.waits, m)
		} else if w.p.Tick()-since > w.bound {
			return fmt.Errorf("W5: module %d is not in sync since %d", m, since)
		}
	}
	return nil
}

// windows tells the events of each message, together.
func (w *watcher) windows() [][]pair.Event {
	var l [][]pair.Event
	last := map[[2]int]int{}
	for _, e := range w.events {
		if e.What > pair.Missed {
			continue
		}
		key := [2]int{e.Slot, e.Version}
		n, ok := last[key]
		if !ok || e.Since-l[n][0].Since > 100 {
			n = len(l)
			l = append(l, nil)
			last[key] = n
		}
		l[n] = append(l[n], e)
	}
	return l
}

// message is W1 and W2, of the events of one message.
func (w *watcher) message(l []pair.Event) error {
	win := w.s.Schedule.Frames[l[0].Version][l[0].Slot-1]
	sent := map[int][]byte{}
	var took []pair.Event
	missed, healthy := 0, 0
	for _, e := range l {
		switch {
		case e.What == pair.Sent:
			sent[e.Module] = e.Words
			if w.p.Healthy(e.Module) {
				healthy++
			}
		case !w.p.Healthy(e.Module):
		case e.What == pair.Took:
			took = append(took, e)
		default:
			missed++
		}
	}
	for _, e := range took {
		if e.Cand != took[0].Cand || !bytes.Equal(e.Words, took[0].Words) || missed > 0 {
			return fmt.Errorf("W2: %+v", l)
		}
		if words, ok := sent[win.From[e.Cand]]; !ok || !bytes.Equal(words, e.Words) {
			return fmt.Errorf("W1: words of nobody: %+v", l)
		}
	}
	// A candidate that has a fault, or is powered off while it sends, may send in part.
	part := slices.ContainsFunc(win.From, func(m int) bool {
		return !w.p.Healthy(m) || slices.ContainsFunc(w.offs[m], func(tick int) bool {
			return tick >= l[0].Since && tick < l[0].Since+plan.Ticks(win)
		})
	})
	if !part && (healthy > 1 || len(sent) > 0 && missed > 0) {
		return fmt.Errorf("W1: %d sent, %d missed it: %+v", healthy, missed, l)
	}
	return nil
}

// whole lets a plane go its way, and tells what is broken.
func whole(seed int64, ticks int) error {
	r := rand.New(rand.NewSource(seed))
	w, err := newWatcher(anySetup(r, ticks))
	if err != nil {
		return err
	}
	if len(w.good) == 0 {
		return nil
	}
	for range ticks {
		w.host(r)
		if err := w.step(); err != nil {
			return err
		}
	}
	for _, l := range w.windows() {
		if err := w.message(l); err != nil {
			return err
		}
	}
	return nil
}

// TestWhole: W1 to W6, and P25.6, of planes of all sorts.
func TestWhole(t *testing.T) {
	for seed := range int64(70) {
		t.Run(fmt.Sprint(seed), func(t *testing.T) {
			t.Parallel()
			if err := whole(seed, 20000); err != nil {
				t.Error(err)
			}
		})
	}
}

// TestFirst: W1: the first candidate that is in sync, and may send, does, and all take its words.
func TestFirst(t *testing.T) {
	from := []int{2, 0, 3, 1}
	s := plane.Setup{Schedule: plan.Schedule{Modules: 6, Frames: [2][]plan.Window{{{Kind: plan.Data, Words: 2, Addr: 9, From: from, To: []int{5, 4}}}}}}
	for on := range 16 {
		for may := range 16 {
			s.On = uint16(on | 0x30)
			p, _ := plane.New(s)
			first := -1
			for k, m := range from {
				p.Pair(m).Memory().Write(9, []byte{byte(m), 0xc3})
				p.Pair(m).Allow(may>>m&1 == 1)
				if first < 0 && on>>m&1 == 1 && may>>m&1 == 1 {
					first = k
				}
			}
			p.Run(200 + 10*20 + 320 + 240)
			took := map[int]pair.Event{}
			for _, e := range p.Events() {
				if e.What == pair.Took {
					took[e.Module] = e
				}
				if e.What == pair.Sent && (first < 0 || e.Module != from[first] || e.Cand != first) {
					t.Error(on, may, e)
				}
			}
			if first < 0 {
				if len(took) != 0 {
					t.Error(on, may, took)
				}
				continue
			}
			for m := 4; m < 6; m++ {
				if e := took[m]; e.Cand != first || !bytes.Equal(e.Words, []byte{byte(from[first]), 0xc3}) {
					t.Error(on, may, m, e)
				}
			}
		}
	}
}
