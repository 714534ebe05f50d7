package utf

import (
	"bytes"
	"math/rand"
	"slices"
	"strings"
	"testing"
	"unicode/utf8"

	"vouchsafe/api"
)

// edges are runes at which the number of bytes changes, and those beside the surrogates.
func edges() []rune {
	return []rune{0, 1, 31, 32, 127, 128, 2047, 2048, 55295, 57344, 65533, 65535, 65536, 1114110, 1114111}
}

// P1.1: each rune's bytes are as the words say.
func TestEachRune(t *testing.T) {
	for r := rune(-2); r < 1114200; r++ {
		want := utf8.ValidRune(r)
		b, e := Encode([]rune{r})
		if want != (e == api.OK) {
			t.Fatal(r, e)
		}
		if !want {
			if e != api.ErrForm || len(b) != 0 {
				t.Fatal(r, b, e)
			}
			continue
		}
		if !bytes.Equal(b, []byte(string(r))) {
			t.Fatal(r, b)
		}
		got, size, e := First(append(b, 'x'))
		if got != r || size != len(b) || e != api.OK {
			t.Fatal(r, got, size, e)
		}
	}
}

// P1.1: all short bytes are judged as another reader judges them.
func TestShortBytes(t *testing.T) {
	firsts := []byte{0, 'a', 0x7f, 0x80, 0xbf, 0xc0, 0xc1, 0xc2, 0xdf, 0xe0, 0xe1, 0xec, 0xed, 0xee, 0xef, 0xf0, 0xf1, 0xf4, 0xf5, 0xf7, 0xf8, 0xfc, 0xfe, 0xff}
	others := []byte{0, 'a', 0x7f, 0x80, 0x8f, 0x90, 0x9f, 0xa0, 0xbf, 0xc0, 0xff}
	for _, a := range firsts {
		check(t, []byte{a})
		for _, b := range others {
			check(t, []byte{a, b})
			for _, c := range others {
				check(t, []byte{a, b, c})
				for _, d := range others {
					check(t, []byte{a, b, c, d})
				}
			}
		}
	}
	check(t, nil)
}

func check(t *testing.T, b []byte) {
	t.Helper()
	right := utf8.Valid(b)
	if Right(b) != right {
		t.Fatalf("%x: %v", b, right)
	}
	n, e := Count(b)
	l, f := Decode(b)
	if !right {
		if n != 0 || e != api.ErrForm || len(l) != 0 || f != api.ErrForm {
			t.Fatalf("%x: %d %v %v %v", b, n, e, l, f)
		}
	} else if n != utf8.RuneCount(b) || e != api.OK || f != api.OK || !slices.Equal(l, []rune(string(b))) {
		t.Fatalf("%x: %d %v %v %v", b, n, e, l, f)
	}
	r, size, e := First(b)
	want, wide := utf8.DecodeRune(b)
	if want == utf8.RuneError && wide < 2 {
		if r != 0 || size != 0 || e != api.ErrForm {
			t.Fatalf("%x: %d %d %v", b, r, size, e)
		}
	} else if r != want || size != wide || e != api.OK {
		t.Fatalf("%x: %d %d %v", b, r, size, e)
	}
}

// P1.2 and P1.3: there and back, and laid side by side.
func TestThereAndBack(t *testing.T) {
	rnd := rand.New(rand.NewSource(1))
	draw := func() []rune {
		l := make([]rune, rnd.Intn(6))
		for i := range l {
			l[i] = edges()[rnd.Intn(len(edges()))]
		}
		return l
	}
	for range 2000 {
		k, l := draw(), draw()
		a, e1 := Encode(k)
		b, e2 := Encode(l)
		if e1 != api.OK || e2 != api.OK {
			t.Fatal(k, l)
		}
		both := append(slices.Clone(a), b...)
		m, e := Decode(both)
		if e != api.OK || !Right(both) || !slices.Equal(m, append(slices.Clone(k), l...)) {
			t.Fatal(k, l, m, e)
		}
		c, e := Encode(m)
		if e != api.OK || !bytes.Equal(c, both) {
			t.Fatal(m, c, e)
		}
	}
}

// P1: what is handed in isn't changed, its spare room neither.
func TestHandedIn(t *testing.T) {
	room := []byte("abXYZ")
	Decode(room[:2])
	Count(room[:2])
	First(room[:2])
	if string(room) != "abXYZ" {
		t.Error(string(room))
	}
	l := []rune{'a', 0xd800, 'b'}
	if b, e := Encode(l); e != api.ErrForm || b != nil {
		t.Error(b, e)
	}
}

func TestLower(t *testing.T) {
	for i := range 256 {
		s := string([]byte{byte(i)})
		want := s
		if i >= 'A' && i <= 'Z' {
			want = strings.ToLower(s)
		}
		if Lower(s) != want {
			t.Error(i)
		}
		if Printable("a"+s+"b") != (i >= 32 && i <= 126) {
			t.Error(i)
		}
	}
	if Lower("") != "" || !Printable("") {
		t.Error("empty")
	}
}
