package layout_test

import (
	"math"
	"math/rand"
	"slices"
	"testing"

	"busbar/api"
	"busbar/layout"
)

type part = layout.Part

// ends are numbers at which something may go wrong.
var ends = []int{math.MinInt, math.MinInt + 1, -1, 0, 1, 8, 62, 63, 64, 65, math.MaxInt - 1, math.MaxInt}

// right is P42.1, by whole numbers that do not leave an int.
func right(p part) bool {
	return p.At >= 0 && p.At < 64 && p.Many >= 1 && p.Many <= 64 && p.At+p.Many <= 64
}

// has tells the places of parts, as the document has it.
func has(l []part) [64]bool {
	var n [64]bool
	for _, p := range l {
		for at := range 64 {
			n[at] = n[at] || right(p) && at >= p.At && at < p.At+p.Many
		}
	}
	return n
}

// TestRight: P42.1.
func TestRight(t *testing.T) {
	for _, at := range ends {
		for _, many := range ends {
			p := part{at, many}
			if p.Right() != right(p) {
				t.Error(p, p.Right())
			}
			for _, o := range []part{{0, 64}, {63, 1}, {0, 1}, {5, 60}, p} {
				want := right(p) && right(o) && p.At < o.At+o.Many && o.At < p.At+p.Many
				if p.Meets(o) != want || o.Meets(p) != want {
					t.Error(p, o, p.Meets(o))
				}
			}
		}
	}
	if (part{3, 2}).Meets(part{5, 1}) || !(part{3, 2}).Meets(part{4, 1}) || (part{3, 2}).Meets(part{0, 3}) || !(part{3, 2}).Meets(part{0, 4}) {
		t.Error("beside one another")
	}
}

// TestPlace: P42.2.
func TestPlace(t *testing.T) {
	for n, c := range []struct {
		sizes []int
		align int
		taken []part
		want  []part
		at    int
		code  api.Errno
	}{
		{[]int{3, 2}, 4, nil, []part{{0, 3}, {4, 2}}, -1, api.OK}, {nil, 1, nil, nil, -1, api.OK}, {[]int{3, 2, 1}, 1, []part{{1, 1}}, []part{{2, 3}, {5, 2}, {0, 1}}, -1, api.OK},
		{[]int{0}, 0, nil, nil, -1, api.ErrArg}, {nil, 65, nil, nil, -1, api.ErrArg}, {nil, -1, nil, nil, -1, api.ErrArg}, {nil, math.MinInt, nil, nil, -1, api.ErrArg}, {nil, math.MaxInt, nil, nil, -1, api.ErrArg},
		{[]int{1, 9, 0}, 1, nil, nil, 1, api.ErrBig}, {[]int{0}, 64, []part{{0, 64}}, nil, 0, api.ErrBig}, {[]int{8, math.MinInt}, 1, nil, nil, 1, api.ErrBig}, {[]int{8, 8, math.MaxInt}, 1, nil, nil, 2, api.ErrBig},
		{[]int{1}, 64, nil, []part{{0, 1}}, -1, api.OK}, {[]int{1, 1}, 64, nil, nil, 1, api.ErrLong}, {[]int{1}, 1, []part{{0, 64}}, nil, 0, api.ErrLong}, {[]int{1}, 1, []part{{0, 63}}, []part{{63, 1}}, -1, api.OK}, {[]int{2}, 1, []part{{0, 63}}, nil, 0, api.ErrLong}, {[]int{1}, 2, []part{{0, 63}}, nil, 0, api.ErrLong},
		{[]int{8, 8, 8, 8, 8, 8, 8, 8}, 8, nil, []part{{0, 8}, {8, 8}, {16, 8}, {24, 8}, {32, 8}, {40, 8}, {48, 8}, {56, 8}}, -1, api.OK}, {[]int{8, 8, 8, 8, 8, 8, 8, 8, 1}, 8, nil, nil, 8, api.ErrLong},
		{[]int{2}, 1, []part{{0, 0}, {-1, 5}, {60, 5}, {0, math.MaxInt}}, []part{{0, 2}}, -1, api.OK}, {[]int{8}, 3, []part{{3, 1}}, []part{{6, 8}}, -1, api.OK},
	} {
		got, at, code := layout.Place(c.sizes, c.align, c.taken)
		if code != c.code || at != c.at || !slices.Equal(got, c.want) {
			t.Error(n, got, at, code)
		}
	}
}

// TestApart: P42.3.
func TestApart(t *testing.T) {
	for n, c := range []struct {
		l     []part
		apart bool
		over  [][2]int
	}{
		{nil, true, nil}, {[]part{{0, 3}, {3, 2}, {63, 1}}, true, nil}, {[]part{{0, 3}, {2, 2}}, false, [][2]int{{0, 1}}}, {[]part{{0, 0}}, false, nil}, {[]part{{0, 3}, {60, 5}}, false, nil},
		{[]part{{10, 5}, {0, 64}, {70, 1}, {14, 1}, {15, 1}}, false, [][2]int{{0, 1}, {0, 3}, {1, 3}, {1, 4}}}, {[]part{{1, 1}, {1, 1}, {1, 1}}, false, [][2]int{{0, 1}, {0, 2}, {1, 2}}},
	} {
		if got := layout.Apart(c.l); got != c.apart {
			t.Error(n, got)
		}
		if got := layout.Over(c.l); !slices.Equal(got, c.over) {
			t.Error(n, got)
		}
	}
}

// TestJoin: P42.4.
func TestJoin(t *testing.T) {
	for n, c := range []struct {
		l, join, free []part
		used          int
	}{
		{nil, nil, []part{{0, 64}}, 0}, {[]part{{0, 64}}, []part{{0, 64}}, nil, 64}, {[]part{{5, 2}, {0, 3}, {3, 1}, {6, 3}}, []part{{0, 4}, {5, 4}}, []part{{4, 1}, {9, 55}}, 8}, {[]part{{63, 1}, {64, 1}, {5, 0}, {-1, 3}}, []part{{63, 1}}, []part{{0, 63}}, 1}, {[]part{{1, 1}, {3, 1}}, []part{{1, 1}, {3, 1}}, []part{{0, 1}, {2, 1}, {4, 60}}, 2},
	} {
		if got := layout.Join(c.l); !slices.Equal(got, c.join) {
			t.Error(n, got)
		}
		if got := layout.Free(c.l); !slices.Equal(got, c.free) {
			t.Error(n, got)
		}
		if got := layout.Used(c.l); got != c.used {
			t.Error(n, got)
		}
	}
	for _, l := range [][]part{layout.Join([]part{{3, 4}}), layout.Free([]part{{3, 4}})} {
		if cap(l) != len(l) {
			t.Error("spare room", len(l), cap(l))
		}
	}
}

// some tells parts by chance, some of which are not right.
func some(r *rand.Rand) []part {
	var l []part
	for range r.Intn(9) {
		l = append(l, part{r.Intn(70) - 3, r.Intn(9) - 1})
	}
	return l
}

// TestWhole: P42.5.
func TestWhole(t *testing.T) {
	for seed := range int64(500) {
		r := rand.New(rand.NewSource(seed))
		taken := some(r)
		var sizes []int
		for range r.Intn(9) {
			sizes = append(sizes, 1+r.Intn(8))
		}
		l, _, code := layout.Place(sizes, 1+r.Intn(9), taken)
		if code == api.OK {
			if !layout.Apart(l) || len(l) != len(sizes) {
				t.Fatal(seed, l)
			}
			for _, p := range l {
				if slices.ContainsFunc(taken, p.Meets) {
					t.Fatal(seed, p)
				}
			}
		}
		join, free := layout.Join(taken), layout.Free(taken)
		if has(join) != has(taken) || layout.Used(taken)+layout.Used(free) != 64 || layout.Used(join) != layout.Used(taken) {
			t.Fatal(seed, join, free)
		}
		if all := append(slices.Clone(join), free...); !layout.Apart(all) || layout.Used(all) != 64 {
			t.Fatal(seed, all)
		}
		for n := 1; n < len(join); n++ {
			if join[n-1].At+join[n-1].Many >= join[n].At {
				t.Fatal(seed, join)
			}
		}
		if layout.Apart(taken) != (len(layout.Over(taken)) == 0 && !slices.ContainsFunc(taken, func(p part) bool { return !right(p) })) {
			t.Fatal(seed, taken)
		}
	}
}
