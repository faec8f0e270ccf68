package cmd_test

import (
	"bytes"
	"math"
	"testing"

	"busbar/api"
	"busbar/cmd"
)

// full is a command in which each number is something, and may be.
func full(op int) cmd.Command {
	return cmd.Command{Op: op, Addr: 50, Words: 3, Cand: 1, Many: 4, Bits: 77, At: 258}
}

// forms are the bytes of full, by Op.
var forms = [][]byte{{0}, {1, 50, 3, 1, 4}, {2, 50, 3, 4}, {3, 3, 4}, {4, 77}, {5}, {6, 1, 2}, {7}, {8, 1, 2}}

// TestOps: commands by their numbers.
func TestOps(t *testing.T) {
	for n, op := range []int{cmd.End, cmd.Send, cmd.Take, cmd.Pass, cmd.Gap, cmd.Short, cmd.Call, cmd.Return, cmd.Jump} {
		if n != op {
			t.Error(n, op)
		}
	}
}

// counts tells which numbers count: Addr, Words, Cand, Many, Bits, At.
var counts = [9][6]bool{
	cmd.Send: {true, true, true, true, false, false},
	cmd.Take: {true, true, false, true, false, false},
	cmd.Pass: {false, true, false, true, false, false},
	cmd.Gap:  {false, false, false, false, true, false},
	cmd.Call: {false, false, false, false, false, true},
	cmd.Jump: {false, false, false, false, false, true},
}

// number tells where one of a command stands.
func number(c *cmd.Command, n int) *int {
	return []*int{&c.Addr, &c.Words, &c.Cand, &c.Many, &c.Bits, &c.At}[n]
}

// TestRight: P9.1.
func TestRight(t *testing.T) {
	// what each number may be at least, and at most, in full
	least := [6]int{0, 1, 0, 2, 1, 0}
	most := [6]int{61, 8, 3, 4, 100, 1023}
	for op := range 9 {
		for n := range 6 {
			for _, v := range []int{least[n], most[n]} {
				c := full(op)
				*number(&c, n) = v
				if !c.Right() {
					t.Errorf("%+v is not right", c)
				}
			}
			for _, v := range []int{least[n] - 1, most[n] + 1, math.MinInt, math.MaxInt} {
				if op != cmd.Send && n == 3 && v == 1 {
					continue // one candidate is too few just where full's Cand counts
				}
				c := full(op)
				*number(&c, n) = v
				if c.Right() == counts[op][n] {
					t.Errorf("%+v: %v", c, c.Right())
				}
			}
		}
	}
	for _, op := range []int{-1, 9, math.MinInt, math.MaxInt} {
		if full(op).Right() {
			t.Error(op)
		}
	}
	if (cmd.Command{Op: cmd.Take, Words: 8, Addr: 57, Many: 1}).Right() || !(cmd.Command{Op: cmd.Take, Words: 8, Addr: 56, Many: 1}).Right() {
		t.Error("the last place")
	}
}

// TestClean: P9.1.
func TestClean(t *testing.T) {
	for op := -2; op < 12; op++ {
		for _, v := range []int{7, -300, 70000, math.MinInt, math.MaxInt} {
			c := cmd.Command{Op: op, Addr: v, Words: v, Cand: v, Many: v, Bits: v, At: v}
			want := cmd.Command{Op: op}
			for n := range 6 {
				if op >= 0 && op < 9 && counts[op][n] {
					*number(&want, n) = v
				}
			}
			if got := c.Clean(); got != want {
				t.Errorf("%+v: %+v", c, got)
			}
		}
	}
}

// TestPut: P9.2.
func TestPut(t *testing.T) {
	for op, want := range forms {
		if b, code := full(op).Put(); code != api.OK || !bytes.Equal(b, want) {
			t.Error(op, b, code)
		}
	}
	for _, c := range []cmd.Command{{Op: -1}, {Op: 9}, {Op: cmd.Send}, {Op: cmd.Gap, Bits: 101}, {Op: cmd.Call, At: 1024}, {Op: cmd.Call, At: -1}} {
		if b, code := c.Put(); code != api.ErrArg || len(b) != 0 {
			t.Error(c, b, code)
		}
	}
}

// TestReadWrong: P9.2.
func TestReadWrong(t *testing.T) {
	for _, c := range []struct {
		b    []byte
		at   int
		want api.Errno
	}{
		{nil, -1, api.ErrArg}, {nil, 1, api.ErrArg}, {nil, 0, api.ErrEnd}, {[]byte{0}, 1, api.ErrEnd}, {[]byte{0}, 2, api.ErrArg}, {[]byte{0}, math.MinInt, api.ErrArg}, {[]byte{0}, math.MaxInt, api.ErrArg},
		{[]byte{9}, 0, api.ErrForm}, {[]byte{255, 0, 0, 0, 0}, 0, api.ErrForm}, {[]byte{4}, 0, api.ErrEnd}, {[]byte{1, 99, 99, 99}, 0, api.ErrEnd},
		{[]byte{4, 0}, 0, api.ErrForm}, {[]byte{4, 101}, 0, api.ErrForm}, {[]byte{6, 4, 0}, 0, api.ErrForm}, {[]byte{8, 255, 255}, 0, api.ErrForm},
		{[]byte{1, 0, 1, 1, 1}, 0, api.ErrForm}, {[]byte{2, 64, 1, 1}, 0, api.ErrForm}, {[]byte{3, 9, 1}, 0, api.ErrForm}, {[]byte{3, 1, 5}, 0, api.ErrForm},
		// What lies behind a list's length is not read.
		{[]byte{6, 1, 2}[:2], 0, api.ErrEnd},
	} {
		if got, next, code := cmd.Read(c.b, c.at); code != c.want || got != (cmd.Command{}) || next != 0 {
			t.Errorf("Read(%v, %d) = %+v, %d, %d", c.b, c.at, got, next, code)
		}
	}
	for op, b := range forms {
		for n := 1; n < len(b); n++ {
			if _, _, code := cmd.Read(b[:n], 0); code != api.ErrEnd {
				t.Error(op, n, code)
			}
		}
	}
}

// TestReadBack: P9.3.
func TestReadBack(t *testing.T) {
	for op := range 9 {
		b, _ := full(op).Put()
		for _, around := range [][]byte{nil, {255}, {0, 9, 7}} {
			all := append(append(bytes.Clone(around), b...), around...)
			c, next, code := cmd.Read(all, len(around))
			if code != api.OK || c != full(op).Clean() || next != len(around)+len(b) {
				t.Error(op, c, next, code)
			}
		}
	}
}

// TestPutBack: P9.3, of all bytes of few values.
func TestPutBack(t *testing.T) {
	values := []byte{0, 1, 3, 4, 5, 8, 9, 61, 63, 100, 101}
	b := make([]byte, 5)
	read := 0
	for op := range 9 {
		for n := range len(values) * len(values) * len(values) * len(values) {
			b[0] = byte(op)
			for k := range 4 {
				b[k+1] = values[n%len(values)]
				n /= len(values)
			}
			c, next, code := cmd.Read(b, 0)
			if code != api.OK {
				continue
			}
			read++
			if got, code := c.Put(); code != api.OK || !bytes.Equal(got, b[:next]) || c != c.Clean() {
				t.Fatal(b, c, got, code)
			}
		}
	}
	if read == 0 {
		t.Error("none was read")
	}
}
