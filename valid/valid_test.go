package valid_test

import (
	"math"
	"slices"
	"testing"

	"busbar/api"
	"busbar/plan"
	"busbar/valid"
)

func data(words, addr int, from, to []int) plan.Window {
	return plan.Window{Kind: plan.Data, Words: words, Addr: addr, From: from, To: to}
}

func gap(bits int) plan.Window { return plan.Window{Kind: plan.Gap, Bits: bits} }

var short = plan.Window{Kind: plan.Short}

// TestWindow: P8.1.
func TestWindow(t *testing.T) {
	for _, c := range []struct {
		w    plan.Window
		want api.Errno
	}{
		{data(1, 0, []int{0}, []int{1}), api.OK}, {data(8, 56, []int{0, 1, 2, 3}, []int{4}), api.OK}, {data(1, 63, []int{4}, []int{3, 0, 2}), api.OK},
		{short, api.OK}, {plan.Window{Kind: plan.Short, Bits: -5, Words: 99}, api.OK},
		{gap(1), api.OK}, {gap(100), api.OK}, {gap(0), api.ErrBig}, {gap(101), api.ErrBig}, {gap(math.MinInt), api.ErrBig}, {gap(math.MaxInt), api.ErrBig},
		{plan.Window{Kind: plan.Long}, api.ErrArg}, {plan.Window{Kind: plan.Version}, api.ErrArg}, {plan.Window{Kind: -1}, api.ErrArg}, {plan.Window{Kind: 5}, api.ErrArg},
		{data(0, 0, []int{0}, []int{1}), api.ErrBig}, {data(9, 0, []int{0}, []int{1}), api.ErrBig}, {data(math.MinInt, 0, nil, nil), api.ErrBig}, {data(math.MaxInt, 0, nil, nil), api.ErrBig},
		{data(1, -1, []int{0}, []int{1}), api.ErrBig}, {data(1, 64, []int{0}, []int{1}), api.ErrBig}, {data(8, 57, []int{0}, []int{1}), api.ErrBig}, {data(1, math.MaxInt, nil, nil), api.ErrBig}, {data(1, math.MinInt, nil, nil), api.ErrBig},
		{data(1, 0, nil, []int{1}), api.ErrArg}, {data(1, 0, []int{0, 1, 2, 3, 4}, []int{1}), api.ErrArg}, {data(1, 0, []int{5}, []int{1}), api.ErrArg}, {data(1, 0, []int{-1}, []int{1}), api.ErrArg},
		{data(1, 0, []int{0, 0, 5}, []int{1}), api.ErrArg}, {data(1, 0, []int{0, 0}, []int{9}), api.ErrTwice}, {data(1, 0, []int{0, 1, 0}, nil), api.ErrTwice},
		{data(1, 0, []int{0}, nil), api.ErrArg}, {data(1, 0, []int{0}, []int{5}), api.ErrArg}, {data(1, 0, []int{0}, []int{1, 1, -1}), api.ErrArg}, {data(1, 0, []int{0}, []int{0, 5}), api.ErrArg},
		{data(1, 0, []int{0}, []int{1, 1}), api.ErrTwice}, {data(1, 0, []int{0}, []int{0}), api.ErrTwice}, {data(1, 0, []int{0, 1}, []int{2, 3, 1}), api.ErrTwice},
		{data(1, 0, []int{math.MinInt}, []int{1}), api.ErrArg}, {data(1, 0, []int{1}, []int{math.MaxInt}), api.ErrArg},
	} {
		if got := valid.Window(c.w, 5); got != c.want {
			t.Errorf("%+v: %d, not %d", c.w, got, c.want)
		}
	}
	for _, modules := range []int{0, -1, math.MinInt} {
		if got := valid.Window(data(1, 0, []int{0}, []int{1}), modules); got != api.ErrArg {
			t.Error(modules, got)
		}
	}
}

// TestSpans: P8.2.
func TestSpans(t *testing.T) {
	two := data(2, 0, []int{0}, []int{1}) // 26 bits
	for n, c := range []struct {
		l       []plan.Window
		version int
		want    []int
	}{
		{nil, 0, []int{16}}, {nil, 1, []int{18}}, {nil, 2, nil}, {nil, -1, nil}, {[]plan.Window{short}, math.MinInt, nil}, {nil, math.MaxInt, nil},
		{[]plan.Window{two}, 0, []int{42}}, {[]plan.Window{gap(7)}, 1, []int{25}},
		{[]plan.Window{short}, 0, []int{9, 13}}, {[]plan.Window{short}, 1, []int{11, 13}},
		{[]plan.Window{two, short, gap(10), short, two}, 0, []int{7 + 26 + 2, 4 + 10 + 2, 4 + 26 + 6 + 3}},
		{[]plan.Window{short, short}, 1, []int{11, 6, 13}},
		{[]plan.Window{{Kind: plan.Long}, short, {Kind: 9, Bits: 4}}, 0, []int{9, 13}},
		{[]plan.Window{gap(2000)}, 0, []int{1016}},
	} {
		if got := valid.Spans(c.l, c.version); !slices.Equal(got, c.want) {
			t.Error(n, got, c.want)
		}
	}
}

func schedule(modules int, first, second []plan.Window) plan.Schedule {
	return plan.Schedule{Modules: modules, Frames: [2][]plan.Window{first, second}}
}

func many(n int, w plan.Window) []plan.Window { return slices.Repeat([]plan.Window{w}, n) }

// TestCheck: P8.3.
func TestCheck(t *testing.T) {
	bad := data(0, 0, []int{0}, []int{1})
	for n, c := range []struct {
		s    plan.Schedule
		want valid.Fault
	}{
		{schedule(2, nil, nil), valid.Fault{}}, {schedule(16, many(32, short), many(32, short)), valid.Fault{}},
		{schedule(1, nil, nil), valid.Fault{Window: -1, Code: api.ErrArg}}, {schedule(17, many(33, short), nil), valid.Fault{Window: -1, Code: api.ErrArg}},
		{schedule(0, nil, nil), valid.Fault{Window: -1, Code: api.ErrArg}}, {schedule(math.MinInt, nil, nil), valid.Fault{Window: -1, Code: api.ErrArg}}, {schedule(math.MaxInt, nil, nil), valid.Fault{Window: -1, Code: api.ErrArg}},
		{schedule(2, many(33, bad), many(33, bad)), valid.Fault{Version: 0, Window: -1, Code: api.ErrBig}}, {schedule(2, nil, many(33, short)), valid.Fault{Version: 1, Window: -1, Code: api.ErrBig}},
		{schedule(2, []plan.Window{short, bad, gap(101)}, many(33, bad)), valid.Fault{Version: 0, Window: 1, Code: api.ErrBig}},
		{schedule(2, many(3, gap(100)), []plan.Window{bad}), valid.Fault{Version: 0, Window: -1, Code: api.ErrFar}},
		{schedule(2, []plan.Window{gap(100), gap(100), {Kind: 3}}, nil), valid.Fault{Version: 0, Window: 2, Code: api.ErrArg}},
		{schedule(2, nil, []plan.Window{short, {Kind: 9}}), valid.Fault{Version: 1, Window: 1, Code: api.ErrArg}},
		{schedule(2, []plan.Window{gap(100), gap(84)}, []plan.Window{gap(100), gap(82)}), valid.Fault{}},
		{schedule(2, []plan.Window{gap(100), gap(85)}, nil), valid.Fault{Version: 0, Window: -1, Code: api.ErrFar}},
		{schedule(2, nil, []plan.Window{gap(100), gap(83)}), valid.Fault{Version: 1, Window: -1, Code: api.ErrFar}},
		{schedule(2, []plan.Window{gap(100), gap(91), short, gap(100), gap(87)}, nil), valid.Fault{}},
		{schedule(2, []plan.Window{gap(100), gap(92), short, gap(100), gap(87)}, nil), valid.Fault{Version: 0, Window: -1, Code: api.ErrFar}},
		{schedule(2, []plan.Window{gap(100), gap(91), short, gap(100), gap(88)}, nil), valid.Fault{Version: 0, Window: -1, Code: api.ErrFar}},
		{schedule(2, []plan.Window{data(1, 0, []int{0}, []int{0})}, nil), valid.Fault{Version: 0, Window: 0, Code: api.ErrTwice}},
		{schedule(2, []plan.Window{data(1, 0, []int{2}, []int{0})}, nil), valid.Fault{Version: 0, Window: 0, Code: api.ErrArg}},
	} {
		if got := valid.Check(c.s); got != c.want {
			t.Errorf("%d: %+v, not %+v", n, got, c.want)
		}
	}
}

// TestMayBe: P8.4, of all windows of two candidates, for two others.
func TestMayBe(t *testing.T) {
	fine := 0
	for n := range 6 * 6 * 6 * 6 {
		l := []int{n % 6, n / 6 % 6, n / 36 % 6, n / 216}
		ok := valid.Window(data(1, 0, l[:2], l[2:]), 5) == api.OK
		if ok != apart(l) {
			t.Error(l, ok)
		}
		if ok {
			fine++
		}
	}
	if fine != 5*4*3*2 {
		t.Error(fine)
	}
}

// apart tells whether all are modules of five, and no one is twice there.
func apart(l []int) bool {
	for n, m := range l {
		if m > 4 || slices.Contains(l[:n], m) {
			return false
		}
	}
	return true
}
