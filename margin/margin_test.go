package margin_test

import (
	"math"
	"math/rand"
	"testing"

	"busbar/api"
	"busbar/margin"
)

// TestHouse: P36.1 and P36.6.
func TestHouse(t *testing.T) {
	h := margin.House()
	if h != (margin.Margin{Span: 4000, Gap: 4400, Skew: 1}) || !h.Right() {
		t.Error(h)
	}
	if h.Slips() != 1 || h.Apart() != 3 || h.Turn() != 4 || h.Late() != 5 || h.Early() != 4 || h.Least() != 10 {
		t.Error(h.Slips(), h.Apart(), h.Turn(), h.Late(), h.Early(), h.Least())
	}
	if !h.Fits(api.Half) || api.Half/2 != api.Quarter || h.Spare(api.Half) != 0 || h.Longest(api.Half) != 4399 {
		t.Error(h.Fits(api.Half), h.Spare(api.Half), h.Longest(api.Half))
	}
}

// TestRight: P36.1.
func TestRight(t *testing.T) {
	for _, c := range []struct {
		m    margin.Margin
		want bool
	}{
		{margin.Margin{1, 1, 0}, true}, {margin.Margin{1 << 30, 1 << 30, 1 << 20}, true}, {margin.Margin{}, false}, {margin.Margin{0, 1, 0}, false}, {margin.Margin{1, 0, 0}, false}, {margin.Margin{1, 1, -1}, false},
		{margin.Margin{1<<30 + 1, 1, 0}, false}, {margin.Margin{1, 1<<30 + 1, 0}, false}, {margin.Margin{1, 1, 1<<20 + 1}, false}, {margin.Margin{math.MinInt, math.MaxInt, math.MaxInt}, false}, {margin.Margin{math.MaxInt, 1, 0}, false},
	} {
		if got := c.m.Right(); got != c.want {
			t.Error(c, got)
		}
		if m := c.m; !c.want && (m.Slips() != 0 || m.Apart() != 0 || m.Turn() != 0 || m.Early() != 0 || m.Late() != 0 || m.Fits(1000) || m.Least() != 0 || m.Spare(1000) != 0 || m.Longest(1000) != 0) {
			t.Error(c)
		}
	}
}

// TestNumbers: P36.2 and P36.3.
func TestNumbers(t *testing.T) {
	for _, c := range []struct {
		m                               margin.Margin
		slips, apart, turn, early, late int
	}{
		{margin.Margin{4399, 4400, 1}, 1, 3, 4, 4, 5}, {margin.Margin{4400, 4400, 1}, 2, 5, 6, 6, 7}, {margin.Margin{10, 3, 0}, 4, 8, 9, 9, 9}, {margin.Margin{1, 1, 7}, 2, 11, 12, 12, 19},
		{margin.Margin{1 << 30, 1, 1 << 20}, 1<<30 + 1, 1<<20 + 2<<30 + 2, 1<<20 + 2<<30 + 3, 1<<20 + 2<<30 + 3, 2<<20 + 2<<30 + 3},
	} {
		if m := c.m; m.Slips() != c.slips || m.Apart() != c.apart || m.Turn() != c.turn || m.Early() != c.early || m.Late() != c.late {
			t.Error(c, m.Slips(), m.Apart(), m.Turn(), m.Early(), m.Late())
		}
	}
}

// fits is P36.4, word by word.
func fits(m margin.Margin, half int) bool {
	behind := half / 2
	return behind >= m.Late() && m.Early() < half-behind
}

// TestFits: P36.4, of small margins.
func TestFits(t *testing.T) {
	for span := 1; span < 30; span += 4 {
		for gap := 1; gap < 30; gap += 5 {
			for skew := range 4 {
				m := margin.Margin{span, gap, skew}
				least := 0
				for half := -5; half < 200; half++ {
					want := half > 0 && fits(m, half)
					if m.Fits(half) != want {
						t.Fatal(m, half)
					}
					if least == 0 && want {
						least = half
					}
					longest := 0
					for s := 1; s < 600; s++ {
						if fits(margin.Margin{s, gap, skew}, half) {
							longest = s
						}
					}
					// beyond what is tried here, one half has as many slips as it has
					if longest < 599 && m.Longest(half) != longest {
						t.Fatal(m, half, longest, m.Longest(half))
					}
				}
				if least == 0 && m.Late() < 99 || least > 0 && m.Least() != least {
					t.Fatal(m, least, m.Least())
				}
				for _, half := range []int{1, 50, 1 << 30} {
					if got := m.Spare(half); got != half-m.Least() {
						t.Fatal(m, half, got)
					}
				}
			}
		}
	}
	h := margin.House()
	for _, half := range []int{0, -1, 1<<30 + 1, math.MinInt, math.MaxInt} {
		if got := h.Spare(half); got != 0 {
			t.Error(half, got)
		}
	}
	if h.Fits(math.MinInt) || !h.Fits(math.MaxInt) || h.Fits(0) || h.Fits(9) || !h.Fits(11) || h.Longest(9) != 0 || h.Longest(math.MinInt) != 0 || h.Longest(math.MaxInt) != 1<<30 {
		t.Error("at the ends")
	}
	if got := (margin.Margin{5, 1, 0}).Longest(7); got != 0 {
		t.Error(got)
	}
}

// TestWait: P36.5.
func TestWait(t *testing.T) {
	for _, c := range [][3]int{{800, 840, 2080}, {840, 800, 2080}, {0, 0, 400}, {-5, -9, 400}, {math.MinInt, 7, 414}, {math.MaxInt, 7, 1<<31 + 400}, {1 << 30, 1<<30 + 1, 1<<31 + 400}} {
		if got := margin.Wait(c[0], c[1]); got != c[2] {
			t.Error(c, got)
		}
	}
}

// TestMore: P36.6.
func TestMore(t *testing.T) {
	r := rand.New(rand.NewSource(1))
	for range 2000 {
		m := margin.Margin{1 + r.Intn(9999), 1 + r.Intn(999), r.Intn(99)}
		for _, o := range []margin.Margin{{m.Span + 1 + r.Intn(99), m.Gap, m.Skew}, {m.Span, 1 + r.Intn(m.Gap), m.Skew}, {m.Span, m.Gap, m.Skew + 1}} {
			if o.Apart() < m.Apart() {
				t.Fatal(m, o)
			}
		}
	}
}
