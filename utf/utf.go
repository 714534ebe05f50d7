// Package utf is layer 1: runes in bytes, as UTF-8 has them.
package utf

import "vouchsafe/api"

const (
	maxRune        = 1114111
	firstSurrogate = 55296
	lastSurrogate  = 57343
)

// isRune: surrogates are numbers of runes, but no runes.
func isRune(r rune) bool {
	return r >= 0 && r <= maxRune && (r < firstSurrogate || r > lastSurrogate)
}

// width is how many bytes a rune has.
func width(r rune) int {
	switch {
	case r <= 127:
		return 1
	case r <= 2047:
		return 2
	case r <= 65535:
		return 3
	}
	return 4
}

// lead reads a first byte: the rune's highest bits, and how many bytes it announces (0 of none).
func lead(c byte) (rune, int) {
	switch {
	case c < 0x80:
		return rune(c), 1
	case c < 0xc0:
		return 0, 0
	case c < 0xe0:
		return rune(c & 0x1f), 2
	case c < 0xf0:
		return rune(c & 0x0f), 3
	case c < 0xf8:
		return rune(c & 0x07), 4
	}
	return 0, 0
}

// plain is how many bytes up to 127 stand at the beginning: most texts have no others, and each is a rune.
func plain(b []byte) int {
	for i := range len(b) {
		if b[i] > 127 {
			return i
		}
	}
	return len(b)
}

// Right: are bytes runes' bytes, one behind the other?
func Right(b []byte) bool {
	_, e := Count(b)
	return e == api.OK
}

// Count is how many runes right bytes have.
func Count(b []byte) (int, api.Errno) {
	n := 0
	for len(b) > 0 {
		if k := plain(b); k > 0 {
			b = b[k:]
			n += k
			continue
		}
		_, size, e := First(b)
		if e != api.OK {
			return 0, e
		}
		b = b[size:]
		n++
	}
	return n, api.OK
}

// Decode tells the runes of right bytes.
func Decode(b []byte) ([]rune, api.Errno) {
	var l []rune
	for len(b) > 0 {
		r, size, e := First(b)
		if e != api.OK {
			return nil, e
		}
		l = append(l, r)
		b = b[size:]
	}
	return l, api.OK
}

// Encode tells the bytes of runes.
func Encode(l []rune) ([]byte, api.Errno) {
	var b []byte
	for _, r := range l {
		if !isRune(r) {
			return nil, api.ErrForm
		}
		b = put(b, r)
	}
	return b, api.OK
}

// put lays a rune's bytes behind others.
func put(b []byte, r rune) []byte {
	n := width(r)
	if n == 1 {
		return append(b, byte(r))
	}
	marks := byte(0xff) << (8 - n)
	b = append(b, marks|byte(r>>(6*(n-1))))
	for i := range n - 1 {
		b = append(b, 0x80|byte(r>>(6*(n-2-i)))&0x3f)
	}
	return b
}

// First tells the rune that bytes begin with, and how many bytes it has.
func First(b []byte) (r rune, size int, e api.Errno) {
	if len(b) == 0 {
		return 0, 0, api.ErrForm
	}
	r, n := lead(b[0])
	if n == 0 || n > len(b) {
		return 0, 0, api.ErrForm
	}
	for i := range n - 1 {
		c := b[i+1]
		if c&0xc0 != 0x80 {
			return 0, 0, api.ErrForm
		}
		r = r<<6 | rune(c&0x3f)
	}
	// A rune that fits fewer bytes would have two forms.
	if !isRune(r) || width(r) != n {
		return 0, 0, api.ErrForm
	}
	return r, n, api.OK
}

// Lower is a text with small letters for the great ones from A to Z.
func Lower(s string) string {
	b := []byte(s)
	for i := range len(b) {
		if b[i] >= 'A' && b[i] <= 'Z' {
			b[i] += 'a' - 'A'
		}
	}
	return string(b)
}

// Printable: has a text just bytes from 32 to 126?
func Printable(s string) bool {
	for i := range len(s) {
		if s[i] < 32 || s[i] > 126 {
			return false
		}
	}
	return true
}
