// Package digits is numbers and words as texts, as several layers tell and take them.
package digits

import "strings"

const (
	limit = 1 << 31 // numbers are below it
	hex   = "0123456789abcdef"
)

// Number tells the number that a text is: digits, without zeros ahead (but 0), below 2^31; and whether it is one.
func Number(s string) (int, bool) {
	if s == "" || s[0] == '0' && len(s) > 1 {
		return 0, false
	}
	n := 0
	for _, c := range []byte(s) {
		if c < '0' || c > '9' {
			return 0, false
		}
		n = n*10 + int(c-'0')
		if n >= limit {
			return 0, false
		}
	}
	return n, true
}

// Hex tells words as two digits of base 16 each.
func Hex(w ...byte) string {
	var text strings.Builder
	for _, b := range w {
		text.WriteByte(hex[b>>4])
		text.WriteByte(hex[b&15])
	}
	return text.String()
}

// Words tells the words of such digits, and whether they are some.
func Words(s string) ([]byte, bool) {
	if len(s)%2 != 0 {
		return nil, false
	}
	w := make([]byte, len(s)/2)
	for n := range len(s) {
		digit := strings.IndexByte(hex, s[n])
		if digit < 0 {
			return nil, false
		}
		w[n/2] = w[n/2]<<4 | byte(digit)
	}
	return w, true
}
