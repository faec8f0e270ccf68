package image_test

import (
	"bytes"
	"math"
	"testing"

	"busbar/api"
	"busbar/image"
)

// sum is P10.1, word by word.
func sum(b []byte) uint16 {
	s := 0xffff
	for _, one := range b {
		for n := 7; n >= 0; n-- {
			t := s>>15&1 ^ int(one)>>n&1
			s = s * 2 % (1 << 16)
			if t == 1 {
				s ^= 0x1021
			}
		}
	}
	return uint16(s)
}

// TestSum: P10.1.
func TestSum(t *testing.T) {
	if got := image.Sum([]byte("123456789")); got != 0x29b1 {
		t.Errorf("%x", got)
	}
	if image.Sum() != 0xffff || image.Sum(nil, []byte{}) != 0xffff {
		t.Error(image.Sum())
	}
	if image.Sum([]byte("123"), nil, []byte("45678"), []byte("9")) != 0x29b1 {
		t.Error("in pieces")
	}
	for n := range 256 {
		b := []byte{byte(n), byte(n * 7), byte(255 - n)}
		if image.Sum(b) != sum(b) {
			t.Error(b, image.Sum(b), sum(b))
		}
	}
}

func sample() image.Image {
	return image.Image{Module: 3, Entry: [2]int{2, 1}, Code: []byte{9, 8, 7}}
}

// TestRight: P10.2.
func TestRight(t *testing.T) {
	long := make([]byte, 1025)
	for _, c := range []struct {
		m    image.Image
		want bool
	}{
		{sample(), true}, {image.Image{}, false}, {image.Image{Code: []byte{0}}, true}, {image.Image{Module: 15, Code: []byte{0}}, true}, {image.Image{Module: 16, Code: []byte{0}}, false}, {image.Image{Module: -1, Code: []byte{0}}, false},
		{image.Image{Code: long[:1024], Entry: [2]int{1023, 0}}, true}, {image.Image{Code: long}, false}, {image.Image{Code: long[:1024], Entry: [2]int{0, 1024}}, false},
		{image.Image{Code: []byte{0}, Entry: [2]int{1, 0}}, false}, {image.Image{Code: []byte{0}, Entry: [2]int{0, -1}}, false}, {image.Image{Code: []byte{0}, Entry: [2]int{math.MinInt, math.MaxInt}}, false},
		{image.Image{Module: math.MaxInt, Code: []byte{0}}, false}, {image.Image{Module: math.MinInt, Code: []byte{0}}, false},
	} {
		if got := c.m.Right(); got != c.want {
			t.Errorf("%+v: %v", c.m, got)
		}
		b, code := c.m.Put()
		if (code == api.OK) != c.want || code != api.OK && (code != api.ErrArg || len(b) != 0) {
			t.Errorf("%+v: %v %d", c.m, b, code)
		}
	}
}

// TestSame: P10.2.
func TestSame(t *testing.T) {
	if !sample().Same(sample()) || !(image.Image{}).Same(image.Image{Code: []byte{}}) {
		t.Error("not the same")
	}
	for n, change := range []func(m *image.Image){
		func(m *image.Image) { m.Module++ }, func(m *image.Image) { m.Entry[0]++ }, func(m *image.Image) { m.Entry[1]++ },
		func(m *image.Image) { m.Code[2]++ }, func(m *image.Image) { m.Code = m.Code[:2] }, func(m *image.Image) { m.Entry[0], m.Entry[1] = m.Entry[1], m.Entry[0] },
	} {
		m := sample()
		change(&m)
		if m.Same(sample()) || sample().Same(m) {
			t.Error(n)
		}
	}
}

// TestPut: P10.2.
func TestPut(t *testing.T) {
	want := []byte{'T', '1', 3, 0, 2, 0, 1, 0, 3, 9, 8, 7}
	s := sum(want)
	want = append(want, byte(s>>8), byte(s))
	m := sample()
	b, code := m.Put()
	if code != api.OK || !bytes.Equal(b, want) {
		t.Error(b, code)
	}
	long := image.Image{Module: 1, Entry: [2]int{300, 1023}, Code: make([]byte, 1024)}
	if b, code := long.Put(); code != api.OK || !bytes.Equal(b[:9], []byte{'T', '1', 1, 1, 44, 3, 255, 4, 0}) || len(b) != 1035 {
		t.Error(b[:9], code)
	}
	b[9] = 0
	if !m.Same(sample()) {
		t.Error("the image was changed")
	}
}

// summed lays a sum behind bytes.
func summed(b ...byte) []byte {
	s := sum(b)
	return append(b, byte(s>>8), byte(s))
}

// TestRead: P10.2.
func TestRead(t *testing.T) {
	fine := summed('T', '1', 3, 0, 2, 0, 1, 0, 3, 9, 8, 7)
	m, code := image.Read(fine)
	if code != api.OK || !m.Same(sample()) {
		t.Error(m, code)
	}
	m.Code[0] = 99
	if fine[9] != 9 {
		t.Error("the bytes were changed")
	}
	for n, c := range []struct {
		b    []byte
		want api.Errno
	}{
		{nil, api.ErrEnd}, {fine[:10], api.ErrEnd}, {[]byte("XXXXXXXXXX"), api.ErrEnd}, {fine[:11], api.ErrForm}, {fine[:13], api.ErrForm}, {append(bytes.Clone(fine), 0), api.ErrForm},
		{summed('T', '2', 3, 0, 2, 0, 1, 0, 3, 9, 8, 7), api.ErrForm}, {summed('U', '1', 3, 0, 2, 0, 1, 0, 3, 9, 8, 7), api.ErrForm},
		{append([]byte("T1\x03\x00\x02\x00\x01\x00\x03\x09\x08\x07"), 0, 0), api.ErrSum}, {append([]byte("T1\x99\x00\x02\x00\x01\x00\x03\x09\x08\x07"), 0, 0), api.ErrSum},
		{summed('T', '1', 16, 0, 2, 0, 1, 0, 3, 9, 8, 7), api.ErrForm}, {summed('T', '1', 3, 0, 3, 0, 1, 0, 3, 9, 8, 7), api.ErrForm}, {summed('T', '1', 3, 0, 2, 1, 0, 0, 3, 9, 8, 7), api.ErrForm},
		{summed('T', '1', 3, 0, 0, 0, 0, 0, 0), api.ErrForm}, {summed(append([]byte{'T', '1', 0, 0, 0, 0, 0, 4, 1}, make([]byte, 1025)...)...), api.ErrForm},
	} {
		if m, code := image.Read(c.b); code != c.want || !m.Same(image.Image{}) {
			t.Error(n, m, code)
		}
	}
	if m, code := image.Read(summed(append([]byte{'T', '1', 0, 3, 255, 0, 0, 4, 0}, make([]byte, 1024)...)...)); code != api.OK || len(m.Code) != 1024 || m.Entry != [2]int{1023, 0} {
		t.Error(m.Entry, code)
	}
}

// TestOneForm: P10.3.
func TestOneForm(t *testing.T) {
	for n := range 40 {
		m := image.Image{Module: n % 16, Code: bytes.Repeat([]byte{byte(n), 3}, 1+n*n%90)}
		m.Entry = [2]int{n % len(m.Code), n * 5 % len(m.Code)}
		b, _ := m.Put()
		got, code := image.Read(b)
		if code != api.OK || !got.Same(m) {
			t.Fatal(n, got, code)
		}
		again, _ := got.Put()
		if !bytes.Equal(again, b) {
			t.Fatal(n)
		}
		for bit := range len(b) * 8 {
			b[bit/8] ^= 1 << (bit % 8)
			if _, code := image.Read(b); code == api.OK {
				t.Fatal(n, bit)
			}
			b[bit/8] ^= 1 << (bit % 8)
		}
	}
}
