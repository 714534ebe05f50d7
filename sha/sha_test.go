package sha

import (
	"bytes"
	"crypto/sha256"
	"crypto/sha512"
	"encoding/hex"
	"math/rand"
	"strings"
	"testing"
)

// P7.1: sums as another program makes them, at all lengths about the blocks' edges.
func TestSums(t *testing.T) {
	rnd := rand.New(rand.NewSource(7))
	for n := range 600 {
		b := make([]byte, n)
		rnd.Read(b)
		if Sum256(b) != sha256.Sum256(b) || Sum512(b) != sha512.Sum512(b) {
			t.Fatal(n)
		}
	}
	for _, n := range []int{100000, 1 << 20} {
		b := bytes.Repeat([]byte{'a'}, n)
		if Sum256(b) != sha256.Sum256(b) || Sum512(b) != sha512.Sum512(b) {
			t.Fatal(n)
		}
	}
	a := Sum256([]byte("abc"))
	b := Sum512([]byte("abc"))
	if !strings.HasPrefix(Hex(a[:]), "ba7816bf8f01cfea") || !strings.HasSuffix(Hex(b[:]), "2a9ac94fa54ca49f") {
		t.Error(Hex(a[:]), Hex(b[:]))
	}
	if Sum256() != sha256.Sum256(nil) || Sum512() != sha512.Sum512(nil) {
		t.Error("nothing")
	}
}

// P7.2: where bytes are cut into parts changes nothing, and nothing of them is changed.
func TestParts(t *testing.T) {
	rnd := rand.New(rand.NewSource(8))
	for range 500 {
		b := make([]byte, rnd.Intn(700))
		rnd.Read(b)
		kept := bytes.Clone(b)
		var parts [][]byte
		for at := 0; at < len(b); {
			n := rnd.Intn(min(len(b)-at, 150) + 1)
			parts = append(parts, b[at:at+n], nil)
			at += n
		}
		if Sum256(parts...) != Sum256(b) || Sum512(parts...) != Sum512(b) || !bytes.Equal(b, kept) {
			t.Fatal(len(b))
		}
	}
}

func TestHex(t *testing.T) {
	b := make([]byte, 256)
	for i := range b {
		b[i] = byte(i)
	}
	if Hex(b) != hex.EncodeToString(b) || Hex(nil) != "" {
		t.Error(Hex(b))
	}
}

func TestPadded(t *testing.T) {
	for _, x := range []struct{ n, width, want int }{
		{0, 32, 64}, {55, 32, 64}, {56, 32, 128}, {64, 32, 128}, {119, 32, 128}, {120, 32, 192},
		{0, 64, 128}, {111, 64, 128}, {112, 64, 256}, {239, 64, 256}, {240, 64, 384},
		{1 << 40, 32, 1<<40 + 64}, {1 << 40, 64, 1<<40 + 128},
		{-1, 32, 0}, {1<<40 + 1, 32, 0}, {1<<63 - 1, 64, 0}, {-1 << 63, 64, 0}, {0, 0, 0}, {0, 33, 0}, {0, 128, 0}, {0, -32, 0},
	} {
		if Padded(x.n, x.width) != x.want {
			t.Error(x, Padded(x.n, x.width))
		}
	}
}

func BenchmarkSum256(b *testing.B) {
	d := make([]byte, 1024)
	for b.Loop() {
		Sum256(d)
	}
}
