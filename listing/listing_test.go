package listing_test

import (
	"bytes"
	"math/rand"
	"slices"
	"strings"
	"testing"

	"busbar/api"
	"busbar/cmd"
	"busbar/compile"
	"busbar/image"
	"busbar/listing"
	"busbar/plan"
)

// commands are some, by their lines.
var commands = map[string]cmd.Command{
	"end":           {Op: cmd.End},
	"send 5 2 1 3":  {Op: cmd.Send, Addr: 5, Words: 2, Cand: 1, Many: 3},
	"send 63 1 0 1": {Op: cmd.Send, Addr: 63, Words: 1, Many: 1},
	"take 0 8 4":    {Op: cmd.Take, Words: 8, Many: 4},
	"pass 3 2":      {Op: cmd.Pass, Words: 3, Many: 2},
	"gap 100":       {Op: cmd.Gap, Bits: 100},
	"short":         {Op: cmd.Short},
	"call 1023":     {Op: cmd.Call, At: 1023},
	"return":        {Op: cmd.Return},
	"jump 0":        {Op: cmd.Jump},
}

// TestLine: P35.1.
func TestLine(t *testing.T) {
	for line, c := range commands {
		if got := listing.Line(c); got != line {
			t.Errorf("%q, not %q", got, line)
		}
		if got, code := listing.Parse(line); code != api.OK || got != c {
			t.Error(line, got, code)
		}
	}
	// What does not count is not told.
	c := cmd.Command{Op: cmd.Gap, Bits: 7, At: 9999, Words: -1}
	if got := listing.Line(c); got != "gap 7" {
		t.Error(got)
	}
	for _, c := range []cmd.Command{{Op: -1}, {Op: 9}, {Op: cmd.Gap}, {Op: cmd.Gap, Bits: 101}, {Op: cmd.Call, At: 1024}, {Op: cmd.Send, Words: 1, Cand: 1, Many: 1}} {
		if got := listing.Line(c); got != "" {
			t.Error(c, got)
		}
	}
}

// TestParseWrong: P35.1.
func TestParseWrong(t *testing.T) {
	for _, s := range []string{
		"", " ", "end ", " end", "End", "stop", "end 0", "gap", "gap ", "gap 0", "gap 101", "gap 07", "gap -7", "gap +7", "gap x", "gap  7", "gap 7 ", "gap 7 7", "gap 2147483648", "gap 99999999999999999999",
		"send 5 2 1", "send 5 2 1 3 0", "send 5 2 3 3", "send 63 2 0 1", "take 64 1 1", "take 0 0 1", "take 0 9 1", "take 0 1 5", "take 0 1 0", "pass 1", "pass 1 2 3", "call 1024", "call", "jump -1", "short 1", "return 0", "end\n", "gap\t7",
	} {
		if c, code := listing.Parse(s); code != api.ErrScript || c != (cmd.Command{}) {
			t.Errorf("%q: %+v %d", s, c, code)
		}
	}
}

// TestList: P35.2.
func TestList(t *testing.T) {
	for want, code := range map[string][]byte{
		"":                                {},
		"0: gap 7\n2: end\n":              {4, 7, 0},
		"0: call 258\n3: end\n4: short\n": {6, 1, 2, 0, 5},
	} {
		if got, wrong := listing.List(code); wrong != api.OK || got != want {
			t.Errorf("%q %d", got, wrong)
		}
	}
	if got, wrong := listing.Places([]byte{6, 1, 2, 0, 5}); wrong != api.OK || !slices.Equal(got, []int{0, 3, 4}) {
		t.Error(got, wrong)
	}
	if got, wrong := listing.Places(nil); wrong != api.OK || len(got) != 0 {
		t.Error(got, wrong)
	}
	for _, c := range []struct {
		code []byte
		want api.Errno
	}{{[]byte{9}, api.ErrForm}, {[]byte{0, 4}, api.ErrEnd}, {[]byte{4, 101}, api.ErrForm}, {[]byte{0, 4, 0, 9, 4}, api.ErrForm}, {[]byte{5, 6, 0}, api.ErrEnd}} {
		if got, wrong := listing.Places(c.code); wrong != c.want || len(got) != 0 {
			t.Error(c, got, wrong)
		}
		if got, wrong := listing.List(c.code); wrong != c.want || got != "" {
			t.Error(c, got, wrong)
		}
	}
}

// TestCode: P35.3.
func TestCode(t *testing.T) {
	for s, want := range map[string][]byte{"": {}, "0: gap 7\n2: end\n": {4, 7, 0}, "0: gap 7\n2: end": {4, 7, 0}, "0: end\n": {0}} {
		if got, n, code := listing.Code(s); code != api.OK || n != 0 || !bytes.Equal(got, want) {
			t.Errorf("%q: %v %d %d", s, got, n, code)
		}
	}
	for s, want := range map[string]int{
		"\n": 1, "\n0: end": 1, "0: end\n\n": 2, "0: end\n\n1: end": 2, "1: end": 1, "00: end": 1, "0:end": 1, "0:  end": 1, "0 : end": 1, "end": 1, "0: gap 7\n1: end": 2, "0: gap 7\n2: end\n3: ends": 3, "0: end\r\n": 1, "0: gap 7\n02: end": 2, " 0: end": 1,
	} {
		if got, n, code := listing.Code(s); code != api.ErrScript || n != want || len(got) != 0 {
			t.Errorf("%q: %v %d %d", s, got, n, code)
		}
	}
	var text strings.Builder
	lines := strings.Split(mustList(t, make([]byte, 1024)), "\n")
	text.WriteString(strings.Join(lines, "\n"))
	if got, n, code := listing.Code(text.String()); code != api.OK || n != 0 || len(got) != 1024 {
		t.Error(len(got), n, code)
	}
	text.WriteString("1024: end\n")
	if got, n, code := listing.Code(text.String()); code != api.ErrLong || n != 0 || len(got) != 0 {
		t.Error(len(got), n, code)
	}
	text.WriteString("x\n")
	if got, n, code := listing.Code(text.String()); code != api.ErrScript || n != 1026 || len(got) != 0 {
		t.Error(len(got), n, code)
	}
}

func mustList(t *testing.T, code []byte) string {
	t.Helper()
	s, wrong := listing.List(code)
	if wrong != api.OK {
		t.Fatal(wrong)
	}
	return s
}

// TestReached: P35.4.
func TestReached(t *testing.T) {
	for n, c := range []struct {
		code  []byte
		entry [2]int
		want  []int
	}{
		{[]byte{0}, [2]int{}, []int{0}}, {[]byte{0, 0, 0}, [2]int{2, 1}, []int{1, 2}}, {[]byte{5, 4, 7, 0, 5}, [2]int{}, []int{0, 1, 3}},
		{[]byte{6, 0, 5, 0, 5, 7, 5}, [2]int{}, []int{0, 3, 5}}, {[]byte{8, 0, 4, 5, 0}, [2]int{}, []int{0, 4}}, {[]byte{8, 0, 0}, [2]int{}, []int{0}}, {[]byte{7, 5}, [2]int{}, []int{0}},
		{[]byte{9, 5}, [2]int{0, 1}, []int{1}}, {[]byte{6, 3, 255, 5}, [2]int{}, []int{0, 3}}, {[]byte{5, 6, 0, 2}, [2]int{}, []int{0, 1, 2}}, {[]byte{4, 5, 0}, [2]int{0, 1}, []int{0, 1, 2}},
	} {
		if got := listing.Reached(image.Image{Code: c.code, Entry: c.entry}); !slices.Equal(got, c.want) {
			t.Error(n, got, c.want)
		}
	}
	for _, m := range []image.Image{{}, {Code: []byte{0}, Entry: [2]int{1, 0}}, {Module: 16, Code: []byte{0}}} {
		if got := listing.Reached(m); len(got) != 0 {
			t.Error(m, got)
		}
	}
}

// TestOf: P35.5.
func TestOf(t *testing.T) {
	m := image.Image{Module: 15, Entry: [2]int{2, 0}, Code: []byte{4, 7, 0}}
	want := "module 15 entries 2 0\n0: gap 7\n2: end\n"
	if got, code := listing.Of(m); code != api.OK || got != want {
		t.Errorf("%q %d", got, code)
	}
	if got, n, code := listing.Image(want); code != api.OK || n != 0 || !got.Same(m) {
		t.Error(got, n, code)
	}
	for _, c := range []struct {
		m    image.Image
		want api.Errno
	}{{image.Image{}, api.ErrArg}, {image.Image{Module: 16, Code: []byte{9}}, api.ErrArg}, {image.Image{Code: []byte{9}}, api.ErrForm}, {image.Image{Code: []byte{0, 4}}, api.ErrEnd}} {
		if got, code := listing.Of(c.m); code != c.want || got != "" {
			t.Error(c, got, code)
		}
	}
}

// TestImageWrong: P35.5.
func TestImageWrong(t *testing.T) {
	long := mustList(t, make([]byte, 1024)) + "1024: end\n"
	for s, want := range map[string]struct {
		n    int
		code api.Errno
	}{
		"": {1, api.ErrScript}, "\n": {1, api.ErrScript}, "module 0 entries 0": {1, api.ErrScript}, "module 0 entries 0 0 \n0: end": {1, api.ErrScript}, "module 00 entries 0 0\n0: end": {1, api.ErrScript}, "module 0 entry 0 0\nx": {1, api.ErrScript}, "Module 0 entries 0 0": {1, api.ErrScript}, "module 0 entries 0 -1": {1, api.ErrScript}, "module  0 entries 0 0": {1, api.ErrScript}, "module 2147483648 entries 0 0": {1, api.ErrScript}, "0: end": {1, api.ErrScript},
		"module 0 entries 0 0\nx": {2, api.ErrScript}, "module 0 entries 0 0\n\n": {2, api.ErrScript}, "module 99 entries 0 0\n0: end\n0: end": {3, api.ErrScript},
		"module 0 entries 0 0\n" + long: {0, api.ErrLong},
		"module 0 entries 0 0":          {0, api.ErrArg}, "module 0 entries 0 0\n": {0, api.ErrArg}, "module 16 entries 0 0\n0: end": {0, api.ErrArg}, "module 0 entries 0 1\n0: end": {0, api.ErrArg}, "module 2147483647 entries 0 0\n0: end": {0, api.ErrArg},
	} {
		if m, n, code := listing.Image(s); code != want.code || n != want.n || !m.Same(image.Image{}) {
			t.Errorf("%.60q: %v %d %d", s, m, n, code)
		}
	}
}

// TestBack: P35.6.
func TestBack(t *testing.T) {
	for seed := range int64(300) {
		r := rand.New(rand.NewSource(seed))
		var lines []cmd.Command
		for _, c := range commands {
			lines = append(lines, c)
		}
		slices.SortFunc(lines, func(a, b cmd.Command) int { return a.Op*100 + a.Many - b.Op*100 - b.Many })
		var code []byte
		for range 1 + r.Intn(30) {
			b, _ := lines[r.Intn(len(lines))].Put()
			code = append(code, b...)
		}
		m := image.Image{Module: r.Intn(16), Entry: [2]int{r.Intn(len(code)), r.Intn(len(code))}, Code: code}
		text, wrong := listing.Of(m)
		got, n, read := listing.Image(text)
		if wrong != api.OK || read != api.OK || n != 0 || !got.Same(m) {
			t.Fatal(seed, wrong, read, n)
		}
		if again, _ := listing.Of(got); again != text {
			t.Fatal(seed, again)
		}
	}
	// A table that is made of a schedule is listed, and all of it is reached.
	s := plan.Schedule{Modules: 2, Frames: [2][]plan.Window{{{Kind: plan.Short}, {Kind: plan.Data, Words: 1, From: []int{0}, To: []int{1}}}}}
	m, _ := compile.For(s, 0)
	places, code := listing.Places(m.Code)
	if code != api.OK || !slices.Equal(listing.Reached(m), places) {
		t.Error(places, listing.Reached(m))
	}
}
