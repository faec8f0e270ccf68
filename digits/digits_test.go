package digits_test

import (
	"bytes"
	"strings"
	"testing"

	"busbar/digits"
)

func TestNumber(t *testing.T) {
	for s, want := range map[string]int{"0": 0, "7": 7, "10": 10, "1999": 1999, "2147483647": 1<<31 - 1} {
		if n, ok := digits.Number(s); !ok || n != want {
			t.Error(s, n, ok)
		}
	}
	for _, s := range []string{"", "00", "01", "-1", "+1", " 1", "1 ", "1a", "x", "2147483648", "99999999999999999999999999", "1\n", "١", strings.Repeat("9", 1000)} {
		if n, ok := digits.Number(s); ok || n != 0 {
			t.Error(s, n, ok)
		}
	}
}

func TestHex(t *testing.T) {
	if digits.Hex() != "" || digits.Hex(0, 10, 255, 0x3c) != "000aff3c" {
		t.Error(digits.Hex(0, 10, 255, 0x3c))
	}
	if w, ok := digits.Words("000aff3c"); !ok || !bytes.Equal(w, []byte{0, 10, 255, 0x3c}) {
		t.Error(w, ok)
	}
	if w, ok := digits.Words(""); !ok || len(w) != 0 {
		t.Error(w, ok)
	}
	for _, s := range []string{"0", "000", "0A", "0g", " 0", "0x", "--"} {
		if w, ok := digits.Words(s); ok || len(w) != 0 {
			t.Error(s, w, ok)
		}
	}
}
