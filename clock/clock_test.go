package clock_test

import (
	"math"
	"testing"

	"busbar/api"
	"busbar/clock"
)

// passed lists the places of a frame that are.
func passed(c *clock.Clock) []int {
	var l []int
	for at := -2; at < c.Long()+2; at++ {
		if c.Passed(at) {
			l = append(l, at)
		}
	}
	return l
}

func alike(l []int, want ...int) bool {
	if len(l) != len(want) {
		return false
	}
	for n := range l {
		if l[n] != want[n] {
			return false
		}
	}
	return true
}

func made(t *testing.T, long int) *clock.Clock {
	t.Helper()
	c, code := clock.New(long)
	if code != api.OK {
		t.Fatal(long, code)
	}
	return c
}

// TestNew: P5.1.
func TestNew(t *testing.T) {
	for _, long := range []int{8, 9, 320, 1 << 20} {
		c := made(t, long)
		if c.Pos() != 0 || c.Long() != long || c.Frame() != 0 || !alike(passed(c), 0) {
			t.Error(long, c.Pos(), c.Long(), c.Frame(), passed(c))
		}
	}
	for _, long := range []int{7, 0, -1, 1<<20 + 1, math.MinInt, math.MaxInt} {
		if c, code := clock.New(long); c != nil || code != api.ErrArg {
			t.Error(long, code)
		}
	}
}

// TestNobodyMade: P5.1 and P5.4.
func TestNobodyMade(t *testing.T) {
	for _, c := range []*clock.Clock{nil, {}} {
		c.Tick(1)
		c.Set(5)
		if code := c.Enter(0, 100); code != api.ErrNil {
			t.Error(code)
		}
		if code := c.Enter(-1, 0); code != api.ErrNil {
			t.Error(code)
		}
		if c.Pos() != 0 || c.Long() != 0 || c.Frame() != 0 || c.Passed(0) || c.Passed(1) || c.Passed(-1) {
			t.Error(c.Pos(), c.Long(), c.Frame())
		}
	}
}

// TestTick: P5.2 and P5.3.
func TestTick(t *testing.T) {
	c := made(t, 10)
	for n := range 9 {
		c.Tick(0)
		if c.Pos() != n+1 || c.Frame() != 0 || !alike(passed(c), n+1) {
			t.Error(n, c.Pos(), c.Frame(), passed(c))
		}
	}
	c.Tick(1)
	if c.Pos() != 1 || c.Frame() != 1 || !alike(passed(c), 0, 1) {
		t.Error(c.Pos(), c.Frame(), passed(c))
	}
	c.Tick(-1)
	if c.Pos() != 1 || c.Frame() != 1 || !alike(passed(c)) {
		t.Error(c.Pos(), c.Frame(), passed(c))
	}
	c.Tick(math.MaxInt)
	if c.Pos() != 3 || !alike(passed(c), 2, 3) {
		t.Error(c.Pos(), passed(c))
	}
	c.Tick(math.MinInt)
	if c.Pos() != 3 || !alike(passed(c)) {
		t.Error(c.Pos(), passed(c))
	}
	c.Tick(2)
	c.Tick(-2)
	c.Tick(1)
	c.Tick(1)
	if c.Pos() != 9 || c.Frame() != 1 || !alike(passed(c), 8, 9) {
		t.Error(c.Pos(), c.Frame(), passed(c))
	}
	c.Tick(0)
	if c.Pos() != 0 || c.Frame() != 2 || !alike(passed(c), 0) {
		t.Error(c.Pos(), c.Frame(), passed(c))
	}
	for _, at := range []int{math.MinInt, math.MaxInt, -10, 10, 20} {
		if c.Passed(at) {
			t.Error(at)
		}
	}
}

// TestSet: P5.3 and P5.4.
func TestSet(t *testing.T) {
	c := made(t, 20)
	for _, s := range [][2]int{{5, 5}, {0, 0}, {19, 19}, {20, 19}, {-1, 0}, {math.MinInt, 0}, {math.MaxInt, 19}} {
		c.Tick(0)
		frames := c.Frame()
		c.Set(s[0])
		if c.Pos() != s[1] || c.Frame() != frames || c.Long() != 20 || !alike(passed(c)) {
			t.Error(s, c.Pos(), c.Frame(), passed(c))
		}
	}
	frames := c.Frame()
	c.Tick(0)
	if c.Pos() != 0 || c.Frame() != frames+1 || !alike(passed(c), 0) {
		t.Error(c.Pos(), c.Frame(), passed(c))
	}
}

// TestEnter: P5.3 and P5.4.
func TestEnter(t *testing.T) {
	c := made(t, 8)
	for range 20 {
		c.Tick(0)
	}
	pos, was := c.Pos(), passed(c)
	for _, e := range [][2]int{{0, 7}, {-1, 8}, {8, 8}, {0, 1<<20 + 1}, {1 << 20, 1 << 20}, {0, 0}, {math.MinInt, math.MaxInt}, {0, math.MinInt}, {math.MaxInt, 100}} {
		if code := c.Enter(e[0], e[1]); code != api.ErrArg {
			t.Error(e, code)
		}
		if c.Pos() != pos || c.Long() != 8 || c.Frame() != 2 || !alike(passed(c), was...) {
			t.Error(e, c.Pos(), c.Long(), c.Frame(), passed(c))
		}
	}
	for _, e := range [][2]int{{0, 8}, {7, 8}, {1<<20 - 1, 1 << 20}, {99, 320}} {
		if code := c.Enter(e[0], e[1]); code != api.OK || c.Pos() != e[0] || c.Long() != e[1] || c.Frame() != 2 || c.Passed(e[0]) || c.Passed(e[0]+1) || c.Passed(0) {
			t.Error(e, code, c.Pos(), c.Long(), c.Frame())
		}
	}
	c.Tick(0)
	if c.Pos() != 100 || !alike(passed(c), 100) {
		t.Error(c.Pos(), passed(c))
	}
}

// TestApart: P5.5.
func TestApart(t *testing.T) {
	for _, c := range [][4]int{
		{3, 1, 10, 2}, {1, 3, 10, -2}, {9, 0, 10, -1}, {0, 9, 10, 1}, {5, 0, 10, 5}, {0, 5, 10, 5}, {6, 0, 10, -4}, {0, 6, 10, 4},
		{5, 0, 11, 5}, {0, 5, 11, -5}, {6, 0, 11, -5}, {0, 6, 11, 5}, {0, 0, 1, 0}, {1, 0, 2, 1}, {0, 1, 2, 1},
		{10, 0, 10, 0}, {0, 10, 10, 0}, {10, 3, 10, 0}, {3, 10, 10, 0}, {-1, 0, 10, 0}, {0, -1, 10, 0}, {0, 0, 0, 0}, {0, 0, -5, 0},
		{math.MaxInt - 1, 0, math.MaxInt, -1}, {0, math.MaxInt - 1, math.MaxInt, 1},
		{math.MaxInt, 0, math.MaxInt, 0}, {math.MinInt, math.MaxInt, math.MaxInt, 0},
	} {
		if got := clock.Apart(c[0], c[1], c[2]); got != c[3] {
			t.Errorf("Apart(%d, %d, %d) = %d, not %d", c[0], c[1], c[2], got, c[3])
		}
	}
	for long := 1; long < 14; long++ {
		for a := range long {
			for b := range long {
				d := clock.Apart(a, b, long)
				if 2*d > long || 2*d <= -long || (a-b-d)%long != 0 {
					t.Error(a, b, long, d)
				}
			}
		}
	}
}

// TestSlips: P5.5.
func TestSlips(t *testing.T) {
	for _, c := range []struct {
		slips []int
		gap   int
		want  bool
	}{
		{nil, 5, true}, {[]int{0, 0}, math.MaxInt, true}, {[]int{1, 0, 0, -1}, 3, true}, {[]int{1, 0, 0, -1}, 4, false},
		{[]int{1, 1}, 1, true}, {[]int{1, 1}, 2, false}, {[]int{1, 1}, 0, true}, {[]int{-1, 1}, math.MinInt, true},
		{[]int{2}, 0, false}, {[]int{-2}, 0, false}, {[]int{0, math.MaxInt}, 0, false}, {[]int{math.MinInt}, -1, false},
		{[]int{0, 0, 0, 1}, 10, true}, {[]int{1, 0, 1, 0, 1}, 2, true}, {[]int{1, 0, 0, 1, 0, 1}, 3, false}, {[]int{1}, math.MaxInt, true},
	} {
		if got := clock.Slips(c.slips, c.gap); got != c.want {
			t.Error(c.slips, c.gap, got)
		}
	}
}

// TestEachOnce: P5.6.
func TestEachOnce(t *testing.T) {
	for _, every := range []int{0, 3, 5, 7} {
		c := made(t, 13)
		next := 1
		for tick := range 1000 {
			slip := 0
			if every > 0 && tick%every == 0 {
				slip = 1 - 2*(tick/every%2)
			}
			from := next
			c.Tick(slip)
			for range 1 + slip {
				if !c.Passed(next % 13) {
					t.Fatal(every, tick, next)
				}
				next++
			}
			if len(passed(c)) != next-from {
				t.Fatal(every, tick, passed(c))
			}
			if c.Frame() != (next-1)/13 {
				t.Fatal(every, tick, c.Frame())
			}
		}
	}
}
