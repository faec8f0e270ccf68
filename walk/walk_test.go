package walk_test

import (
	"bytes"
	"math"
	"slices"
	"testing"

	"busbar/api"
	"busbar/cmd"
	"busbar/image"
	"busbar/plan"
	"busbar/walk"
)

// lay tells the bytes of commands, one behind the other.
func lay(t *testing.T, l ...cmd.Command) []byte {
	t.Helper()
	var b []byte
	for _, c := range l {
		one, code := c.Put()
		if code != api.OK {
			t.Fatal(c, code)
		}
		b = append(b, one...)
	}
	return b
}

var (
	end   = cmd.Command{Op: cmd.End}
	short = cmd.Command{Op: cmd.Short}
	back  = cmd.Command{Op: cmd.Return}
)

func call(at int) cmd.Command  { return cmd.Command{Op: cmd.Call, At: at} }
func jump(at int) cmd.Command  { return cmd.Command{Op: cmd.Jump, At: at} }
func gap(bits int) cmd.Command { return cmd.Command{Op: cmd.Gap, Bits: bits} }

// same tells whether windows are alike.
func same(a, b []plan.Window) bool {
	return plan.Same(plan.Schedule{Frames: [2][]plan.Window{a}}, plan.Schedule{Frames: [2][]plan.Window{b}})
}

// TestWindows: P11.1, and the windows of commands.
func TestWindows(t *testing.T) {
	m := image.Image{Module: 9, Code: lay(t, gap(7), short,
		cmd.Command{Op: cmd.Send, Addr: 5, Words: 2, Cand: 1, Many: 3},
		cmd.Command{Op: cmd.Take, Addr: 6, Words: 3, Many: 2},
		cmd.Command{Op: cmd.Pass, Words: 4, Many: 4}, end, short)}
	want := []plan.Window{
		{Kind: plan.Gap, Bits: 7}, {Kind: plan.Short},
		{Kind: plan.Data, Words: 2, Addr: 5, From: []int{-1, 9, -3}},
		{Kind: plan.Data, Words: 3, Addr: 6, From: []int{-1, -2}, To: []int{9}},
		{Kind: plan.Data, Words: 4, From: []int{-1, -2, -3, -4}},
	}
	if l, code := walk.Windows(m, 0); code != api.OK || !same(l, want) {
		t.Errorf("%+v %d", l, code)
	}
	m.Entry[1] = 3
	if l, code := walk.Windows(m, 1); code != api.OK || !same(l, want[2:]) {
		t.Errorf("%+v %d", l, code)
	}
	slots, code := walk.Run(m, 1)
	if want := plan.View(plan.Schedule{Frames: [2][]plan.Window{1: want[2:]}}, 1, 9); code != api.OK || !slices.Equal(slots, want) {
		t.Errorf("%+v %d", slots, code)
	}
}

// TestArg: P11.1.
func TestArg(t *testing.T) {
	fine := image.Image{Code: []byte{0}}
	for _, version := range []int{-1, 2, math.MinInt, math.MaxInt} {
		if l, code := walk.Windows(fine, version); code != api.ErrArg || len(l) != 0 {
			t.Error(version, l, code)
		}
		if l, code := walk.Run(fine, version); code != api.ErrArg || len(l) != 0 {
			t.Error(version, l, code)
		}
	}
	for _, m := range []image.Image{{}, {Module: 16, Code: []byte{0}}, {Code: []byte{0}, Entry: [2]int{0, 1}}} {
		if l, code := walk.Windows(m, 0); code != api.ErrArg || len(l) != 0 {
			t.Error(m, l, code)
		}
	}
	if l, code := walk.Windows(fine, 1); code != api.OK || len(l) != 0 {
		t.Error(l, code)
	}
}

// TestCalls: P11.1.
func TestCalls(t *testing.T) {
	// four calls within one another; the fourth has a window, and each return lays one more
	deep := lay(t, call(4), end, // 0, 3
		call(9), short, back, // 4, 7, 8
		call(14), short, back, // 9, 12, 13
		call(19), short, back, // 14, 17, 18
		gap(3), back) // 19
	l, code := walk.Windows(image.Image{Code: deep}, 0)
	want := []plan.Window{{Kind: plan.Gap, Bits: 3}, {Kind: plan.Short}, {Kind: plan.Short}, {Kind: plan.Short}}
	if code != api.OK || !same(l, want) {
		t.Error(l, code)
	}
	for n, c := range []struct {
		code []byte
		want api.Errno
	}{
		{lay(t, call(0)), api.ErrDepth}, {lay(t, back), api.ErrForm}, {lay(t, call(4), back, back), api.ErrForm}, {lay(t, jump(0)), api.ErrLong},
		{lay(t, short), api.ErrEnd}, {[]byte{9}, api.ErrForm}, {[]byte{4}, api.ErrEnd}, {[]byte{4, 101}, api.ErrForm}, {lay(t, jump(3)), api.ErrEnd}, {lay(t, jump(4)), api.ErrArg}, {lay(t, call(100)), api.ErrArg},
		{lay(t, short, jump(0)), api.ErrLong}, {append(deep[:19:19], lay(t, call(22), gap(4), back)...), api.ErrDepth},
	} {
		if l, code := walk.Windows(image.Image{Code: c.code}, 0); code != c.want || len(l) != 0 {
			t.Error(n, l, code)
		}
		if l, code := walk.Run(image.Image{Code: c.code}, 0); code != c.want || len(l) != 0 {
			t.Error(n, l, code)
		}
	}
}

// TestManyWindows: P11.1, at MaxWindows, and one beyond it.
func TestManyWindows(t *testing.T) {
	code := append(bytes.Repeat(lay(t, short), 32), 0)
	if l, errno := walk.Windows(image.Image{Code: code}, 0); errno != api.OK || len(l) != 32 {
		t.Error(len(l), errno)
	}
	code = append(bytes.Repeat(lay(t, short), 33), 0)
	if l, errno := walk.Windows(image.Image{Code: code}, 0); errno != api.ErrLong || len(l) != 0 {
		t.Error(len(l), errno)
	}
}

// TestSteps: P11.1, at MaxSteps, and one beyond it: calls of calls of calls, each twice over, and jumps that fill up.
func TestSteps(t *testing.T) {
	// A body of k returns at once; each caller takes 1 step for a call, and what it calls.
	for extra := range 3 {
		// main: 15 calls of a (4096 - 1 - extra steps are made of these by jumps)
		var code []byte
		// place 0: jump over to the main part, which lies behind bodies
		body := func(calls, at int) int { // lays calls of at, and a return; tells where
			here := len(code)
			for range calls {
				code = append(code, lay(t, call(at))...)
			}
			code = append(code, lay(t, back)...)
			return here
		}
		a := body(0, 0) // 1 step
		b := body(9, a) // 9*2+1 = 19
		c := body(9, b) // 9*20+1 = 181
		d := body(9, c) // 9*182+1 = 1639
		main := len(code)
		steps := 0
		add := func(at, cost int) {
			for steps+cost+1 <= 4095-1+extra { // an end follows
				code = append(code, lay(t, call(at))...)
				steps += cost + 1
			}
		}
		add(d, 1639)
		add(c, 181)
		add(b, 19)
		add(a, 1)
		for steps < 4095-1+extra {
			code = append(code, lay(t, jump(len(code)+3))...)
			steps++
		}
		code = append(code, lay(t, end)...)
		m := image.Image{Code: code, Entry: [2]int{main, 0}}
		want := api.OK
		if steps+1 > 4096 {
			want = api.ErrLong
		}
		if _, errno := walk.Windows(m, 0); errno != want {
			t.Error(extra, steps, errno)
		}
	}
}

// TestFar: P11.2.
func TestFar(t *testing.T) {
	for version, most := range []int{84, 82} {
		m := image.Image{Code: lay(t, gap(100), gap(most), end)}
		if l, code := walk.Run(m, version); code != api.OK || len(l) != 4 {
			t.Error(version, l, code)
		}
		m = image.Image{Code: lay(t, gap(100), gap(most+1), end)}
		if l, code := walk.Run(m, version); code != api.ErrFar || len(l) != 0 {
			t.Error(version, l, code)
		}
		if l, code := walk.Windows(m, version); code != api.OK || len(l) != 2 {
			t.Error(version, l, code)
		}
	}
}

// TestEnds: P11.3, of bytes of all sorts.
func TestEnds(t *testing.T) {
	x := uint32(1)
	for range 3000 {
		code := make([]byte, 1+int(x>>8)%60)
		for n := range code {
			x = x*1664525 + 1013904223
			code[n] = byte(x>>24) % 12
		}
		m := image.Image{Code: code, Entry: [2]int{0, len(code) - 1}}
		for version := range 2 {
			slots, errno := walk.Run(m, version)
			at := 0
			for _, s := range slots {
				if s.Start != at {
					t.Fatal(code, s)
				}
				at += s.Long
			}
			if errno == api.OK && (len(slots) < 2 || slots[0].Kind != plan.Long) {
				t.Fatal(code, slots)
			}
		}
	}
}
