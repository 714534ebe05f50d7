package base

import (
	"bytes"
	"encoding/base64"
	"math/rand"
	"strings"
	"testing"

	"vouchsafe/api"
)

// P4.1 and P4.2: as another writer writes, and there and back.
func TestThereAndBack(t *testing.T) {
	rnd := rand.New(rand.NewSource(1))
	for n := range 200 {
		for range 20 {
			b := make([]byte, n)
			rnd.Read(b)
			for _, x := range []struct {
				std *base64.Encoding
				put func([]byte) string
				get func(string) ([]byte, api.Errno)
			}{{base64.RawStdEncoding, Encode, Decode}, {base64.RawURLEncoding, Safe, Unsafe}} {
				s := x.put(b)
				if s != x.std.EncodeToString(b) || len(s) != Size(n) {
					t.Fatal(b, s)
				}
				if c, e := x.get(s); e != api.OK || !bytes.Equal(b, c) {
					t.Fatal(b, c, e)
				}
			}
		}
	}
}

// P4.1: short texts of all kinds, told by another reader.
func TestTexts(t *testing.T) {
	letters := "AQBgZz019+/-_= \n\xff"
	var texts []string
	texts = append(texts, "")
	for from := 0; len(texts) < 30000; {
		s := texts[from]
		from++
		for i := range len(letters) {
			texts = append(texts, s+letters[i:i+1])
		}
	}
	usualOnes, safeOnes := base64.RawStdEncoding.Strict(), base64.RawURLEncoding.Strict()
	for _, s := range texts {
		want, err := usualOnes.DecodeString(s)
		if strings.Contains(s, "\n") {
			err = base64.CorruptInputError(0)
		}
		if b, e := Decode(s); (err == nil) != (e == api.OK) || err == nil && !bytes.Equal(b, want) || err != nil && (e != api.ErrForm || len(b) > 0) {
			t.Fatalf("%q %v %v", s, b, e)
		}
		want, err = safeOnes.DecodeString(s)
		if strings.Contains(s, "\n") {
			err = base64.CorruptInputError(0)
		}
		if b, e := Unsafe(s); (err == nil) != (e == api.OK) || err == nil && !bytes.Equal(b, want) || err != nil && (e != api.ErrForm || len(b) > 0) {
			t.Fatalf("%q %v %v", s, b, e)
		}
	}
}

func TestExamples(t *testing.T) {
	if Encode([]byte{255}) != "/w" || Safe([]byte{255}) != "_w" || Encode([]byte("foob")) != "Zm9vYg" {
		t.Error("encode")
	}
	for _, s := range []string{"Zm9vYh", "A", "Zm9vY", "Zm9vYg==", "Zm9v Yg", "_w"} {
		if b, e := Decode(s); e != api.ErrForm || len(b) > 0 {
			t.Error(s, b, e)
		}
	}
	if _, e := Unsafe("/w"); e != api.ErrForm {
		t.Error(e)
	}
	for n, want := range map[int]int{-1: 0, 0: 0, 1: 2, 2: 3, 3: 4, 32: 43, 64: 86, 1 << 40: (1<<43 + 5) / 6, 1<<40 + 1: 0, 1 << 62: 0, -1 << 63: 0} {
		if Size(n) != want {
			t.Error(n, Size(n))
		}
	}
}
