package fault_test

import (
	"bytes"
	"math"
	"testing"

	"busbar/api"
	"busbar/fault"
	"busbar/wires"
)

// TestKinds: kinds by their numbers.
func TestKinds(t *testing.T) {
	if fault.None != 0 || fault.Line != 1 || fault.Side != 2 {
		t.Error(fault.None, fault.Line, fault.Side)
	}
}

// TestRight: P20.1.
func TestRight(t *testing.T) {
	one := []byte{1}
	for n, c := range []struct {
		f    fault.Fault
		want api.Errno
	}{
		{fault.Fault{}, api.OK}, {fault.Fault{From: -5, Line: 9, Module: -1}, api.OK},
		{fault.Fault{Kind: 3, Pattern: one}, api.ErrArg}, {fault.Fault{Kind: -1, Pattern: one}, api.ErrArg}, {fault.Fault{Kind: math.MaxInt, Pattern: one}, api.ErrArg},
		{fault.Fault{Kind: fault.Line, Pattern: one}, api.OK}, {fault.Fault{Kind: fault.Line, Line: 3, Pattern: one, Module: 99, From: math.MaxInt}, api.OK},
		{fault.Fault{Kind: fault.Line, Line: 4, Pattern: one}, api.ErrArg}, {fault.Fault{Kind: fault.Line, Line: -1, Pattern: one}, api.ErrArg}, {fault.Fault{Kind: fault.Line, From: -1, Pattern: one}, api.ErrArg}, {fault.Fault{Kind: fault.Line}, api.ErrArg},
		{fault.Fault{Kind: fault.Line, Pattern: make([]byte, 256)}, api.OK}, {fault.Fault{Kind: fault.Line, Pattern: make([]byte, 257)}, api.ErrArg},
		{fault.Fault{Kind: fault.Side, Pattern: one, Line: 77}, api.OK}, {fault.Fault{Kind: fault.Side, Module: 3, Pattern: one}, api.OK}, {fault.Fault{Kind: fault.Side, Module: 4, Pattern: one}, api.ErrArg}, {fault.Fault{Kind: fault.Side, Module: -1, Pattern: one}, api.ErrArg},
		{fault.Fault{Kind: fault.Side, From: math.MinInt, Pattern: one}, api.ErrArg}, {fault.Fault{Kind: fault.Side}, api.ErrArg},
	} {
		if got := c.f.Right(4); got != c.want {
			t.Error(n, got)
		}
	}
	if (fault.Fault{Kind: fault.Side, Pattern: one}).Right(0) != api.ErrArg || (fault.Fault{Kind: fault.Side, Pattern: one}).Right(math.MinInt) != api.ErrArg {
		t.Error("no modules")
	}
}

// TestClone: P20.1.
func TestClone(t *testing.T) {
	f := fault.Fault{Kind: fault.Side, Module: 3, Y: true, Line: 2, From: 9, Pattern: []byte{1, 2, 3}}
	c := f.Clone()
	if c.Kind != 2 || c.Module != 3 || !c.Y || c.Line != 2 || c.From != 9 || !bytes.Equal(c.Pattern, f.Pattern) {
		t.Error(c)
	}
	c.Pattern[0] = 99
	if f.Pattern[0] != 1 {
		t.Error(f)
	}
	if c := (fault.Fault{}).Clone(); len(c.Pattern) != 0 {
		t.Error(c)
	}
}

// TestOf: P20.1.
func TestOf(t *testing.T) {
	for kind := -1; kind < 4; kind++ {
		f := fault.Fault{Kind: kind, Module: 2}
		if f.Of(2) != (kind == fault.Side) || f.Of(1) || f.Of(-1) {
			t.Error(kind)
		}
	}
}

// TestAt: P20.2.
func TestAt(t *testing.T) {
	for kind := -1; kind < 4; kind++ {
		f := fault.Fault{Kind: kind, From: 5, Pattern: []byte{10, 11, 12}}
		for tick := -3; tick < 30; tick++ {
			want, ok := byte(0), kind >= 1 && kind <= 2 && tick >= 5
			if ok {
				want = byte(10 + (tick-5)%3)
			}
			if b, is := f.At(tick); b != want || is != ok {
				t.Error(kind, tick, b, is)
			}
		}
	}
	for _, c := range []struct {
		from, tick, many int
		want             byte
	}{
		{math.MinInt, math.MaxInt, 7, 1}, {math.MinInt, math.MaxInt, 256, 255}, {-1, math.MaxInt, 2, 0}, {math.MaxInt, math.MaxInt, 5, 0}, {-7, -1, 4, 2},
	} {
		f := fault.Fault{Kind: fault.Line, From: c.from, Pattern: make([]byte, c.many)}
		for n := range f.Pattern {
			f.Pattern[n] = byte(n)
		}
		if b, ok := f.At(c.tick); !ok || b != c.want {
			t.Error(c, b, ok)
		}
	}
	if b, ok := (fault.Fault{Kind: fault.Line}).At(5); b != 0 || ok {
		t.Error(b, ok)
	}
	if b, ok := (fault.Fault{Kind: fault.Line, Pattern: []byte{1}}).At(math.MinInt); b != 0 || ok {
		t.Error(b, ok)
	}
}

// TestLines: P20.3 and P20.5.
func TestLines(t *testing.T) {
	for line := range 4 {
		for b := range 256 {
			f := fault.Fault{Kind: fault.Line, Line: line, From: 2, Pattern: []byte{byte(b)}}
			for l := range wires.Lines(16) {
				want := l
				switch b % 4 {
				case 0:
					want = l &^ (1 << line)
				case 1:
					want = l | 1<<line
				}
				if got := f.Lines(l, 2); got != want {
					t.Fatal(line, b, l, got)
				}
				if got := f.Lines(l, 1); got != l {
					t.Fatal(line, b, l, got)
				}
				f.Kind = fault.Side
				if got := f.Lines(l, 2); got != l {
					t.Fatal(line, b, l, got)
				}
				f.Kind = fault.Line
			}
		}
	}
	f := fault.Fault{Kind: fault.Line, Line: 2, From: 5, Pattern: []byte{1}}
	if f.Lines(0, 4) != 0 || f.Lines(0, 5) != 4 || f.Lines(0, 500) != 4 {
		t.Error(f.Lines(0, 4), f.Lines(0, 5))
	}
	if f = (fault.Fault{Kind: fault.Line, Line: 7, Pattern: []byte{1}}); f.Lines(3, 0) != 3 {
		t.Error(f.Lines(3, 0))
	}
}

// TestDrives: P20.4 and P20.5.
func TestDrives(t *testing.T) {
	for b := range 256 {
		for _, y := range []bool{false, true} {
			f := fault.Fault{Kind: fault.Side, Module: 1, Y: y, From: 2, Pattern: []byte{byte(b)}}
			for l := range wires.Lines(16) {
				for _, opens := range []bool{false, true} {
					as := func(f fault.Fault, module int, side bool, tick int, want wires.Lines, open bool) {
						t.Helper()
						if got, is := f.Drives(module, side, l, opens, tick); got != want || is != open {
							t.Fatal(b, y, l, opens, module, side, tick, got, is)
						}
					}
					as(f, 0, y, 2, l, opens)
					as(f, 1, !y, 2, l, opens)
					as(f, 1, y, 1, l, opens)
					line := f
					line.Kind = fault.Line
					as(line, 1, y, 2, l, opens)
					if b&8 != 0 {
						as(f, 1, y, 2, l, opens)
						continue
					}
					want := wires.Lines(b & 3)
					if y {
						want <<= 2
					}
					as(f, 1, y, 2, want, b&4 != 0)
				}
			}
		}
	}
}
