package edsig

import (
	"bytes"
	"crypto/ed25519"
	"crypto/sha256"
	"encoding/hex"
	"math/big"
	"math/rand"
	"testing"
)

func unhex(s string) [32]byte {
	b, _ := hex.DecodeString(s)
	return [32]byte(b)
}

// P11.1: the first two of the RFC, and many as another program makes them.
func TestAsOthers(t *testing.T) {
	seed := unhex("9d61b19deffd5a60ba844af492ec2cc44449c5697b326919703bac031cae7f60")
	if Public(seed) != unhex("d75a980182b10ab7d54bfed3c964073a0ee172f3daa62325af021a68f707511a") {
		t.Error("key")
	}
	rnd := rand.New(rand.NewSource(1))
	for n := range 100 {
		var seed [32]byte
		rnd.Read(seed[:])
		message := make([]byte, n*3)
		rnd.Read(message)
		kept := bytes.Clone(message)
		private := ed25519.NewKeyFromSeed(seed[:])
		key, signature := Public(seed), Sign(seed, message)
		if !bytes.Equal(private[32:], key[:]) || !bytes.Equal(ed25519.Sign(private, message), signature[:]) {
			t.Fatal(seed)
		}
		if !Verify(key, message, signature) || !bytes.Equal(message, kept) {
			t.Fatal(seed)
		}
	}
	if Seed("abc") != sha256.Sum256([]byte("abc")) || Seed("") != sha256.Sum256(nil) {
		t.Error("seed")
	}
}

// P11.2: what is signed holds, and for nothing else.
func TestHurt(t *testing.T) {
	rnd := rand.New(rand.NewSource(2))
	seed := Seed("a")
	key, message := Public(seed), []byte("a message")
	signature := Sign(seed, message)
	for range 100 {
		k, m, s := key, bytes.Clone(message), signature
		switch rnd.Intn(3) {
		case 0:
			k[rnd.Intn(32)] ^= 1 << rnd.Intn(8)
		case 1:
			m[rnd.Intn(len(m))] ^= 1 << rnd.Intn(8)
		case 2:
			s[rnd.Intn(64)] ^= 1 << rnd.Intn(8)
		}
		if Verify(k, m, s) {
			t.Fatal(k, m, s)
		}
	}
	if Verify(key, nil, signature) || Verify(Public(Seed("b")), message, signature) || Verify([32]byte{2}, message, signature) {
		t.Error("others")
	}
}

// P11.3: another s of the same R doesn't hold; one that isn't reduced neither.
func TestOneS(t *testing.T) {
	order, _ := new(big.Int).SetString("7237005577332262213973186563042994240857116359379907606001950938285454250989", 10)
	seed := Seed("one")
	key, message := Public(seed), []byte{}
	signature := Sign(seed, message)
	s := new(big.Int)
	for i := range 32 {
		s.Lsh(s, 8).Or(s, big.NewInt(int64(signature[63-i])))
	}
	for _, n := range []*big.Int{new(big.Int).Add(s, order), new(big.Int).Add(s, new(big.Int).Lsh(order, 1)), new(big.Int).Add(s, big.NewInt(1)), new(big.Int).Sub(order, s), big.NewInt(0)} {
		other := signature
		b := n.FillBytes(make([]byte, 32))
		for i := range b {
			other[32+i] = b[31-i]
		}
		if Verify(key, message, other) {
			t.Error(n)
		}
	}
}

// A key of small order verifies what anybody makes: the words ask no more of a key than that it is a point.
func TestSmallKey(t *testing.T) {
	var s [64]byte
	s[0] = 1
	if !Verify([32]byte{1}, []byte("x"), s) {
		t.Error("the key (0, 1), R the same, s 0")
	}
	s[0], s[31] = 1, 0x80
	if Verify([32]byte{1}, []byte("x"), s) {
		t.Error("R as it stands isn't the sum's bytes")
	}
}
