package field

import (
	"math/big"
	"math/rand"
	"testing"
)

var prime = new(big.Int).Sub(new(big.Int).Lsh(big.NewInt(1), 255), big.NewInt(19))

func toBig(a [32]byte) *big.Int {
	n := new(big.Int)
	for i := range a {
		n.Lsh(n, 8).Or(n, big.NewInt(int64(a[31-i])))
	}
	return n
}

func fromBig(n *big.Int) [32]byte {
	var a [32]byte
	b := new(big.Int).Mod(n, new(big.Int).Lsh(big.NewInt(1), 256)).FillBytes(make([]byte, 32))
	for i := range a {
		a[i] = b[31-i]
	}
	return a
}

// numbers are those at the edges, and some that are drawn.
func numbers() [][32]byte {
	var l [][32]byte
	two := new(big.Int).Lsh(prime, 1)
	for _, base := range []*big.Int{big.NewInt(0), prime, two, new(big.Int).Lsh(big.NewInt(1), 255), new(big.Int).Lsh(big.NewInt(1), 256), new(big.Int).Lsh(big.NewInt(1), 51), new(big.Int).Lsh(big.NewInt(1), 204)} {
		for d := int64(-3); d < 40; d += 1 + d*d/9 {
			l = append(l, fromBig(new(big.Int).Add(base, big.NewInt(d))))
		}
	}
	rnd := rand.New(rand.NewSource(8))
	for range 40 {
		var a [32]byte
		rnd.Read(a[:])
		l = append(l, a)
	}
	return l
}

func reduced(n *big.Int) [32]byte { return fromBig(n.Mod(n, prime)) }

// P8.1: every call as another program's numbers say.
func TestPairs(t *testing.T) {
	for _, a := range numbers() {
		x := toBig(a)
		if Right(a) != (x.Cmp(prime) < 0) || Reduce(a) != reduced(new(big.Int).Set(x)) {
			t.Fatal("reduce", x)
		}
		for _, b := range numbers() {
			y := toBig(b)
			if Add(a, b) != reduced(new(big.Int).Add(x, y)) || Sub(a, b) != reduced(new(big.Int).Sub(x, y)) || Mul(a, b) != reduced(new(big.Int).Mul(x, y)) {
				t.Fatal(x, y)
			}
		}
	}
}

func TestPowerAndInv(t *testing.T) {
	all := numbers()
	rnd := rand.New(rand.NewSource(9))
	for _, a := range all {
		b := all[rnd.Intn(len(all))]
		x := toBig(a)
		x.Mod(x, prime)
		if Power(a, b) != fromBig(new(big.Int).Exp(x, toBig(b), prime)) {
			t.Fatal(x, toBig(b))
		}
		one := Mul(a, Inv(a))
		if x.Sign() == 0 && Inv(a) != [32]byte{} || x.Sign() != 0 && one != [32]byte{1} {
			t.Fatal("inverse", x)
		}
	}
	if Power([32]byte{}, [32]byte{}) != [32]byte{1} || Power([32]byte{}, [32]byte{1}) != [32]byte{} {
		t.Error("power of 0")
	}
}

// P8.2: a field.
func TestField(t *testing.T) {
	all := numbers()
	rnd := rand.New(rand.NewSource(10))
	for range 3000 {
		a, b, c := all[rnd.Intn(len(all))], all[rnd.Intn(len(all))], all[rnd.Intn(len(all))]
		if Add(a, b) != Add(b, a) || Mul(a, b) != Mul(b, a) || Add(a, Add(b, c)) != Add(Add(a, b), c) || Mul(a, Mul(b, c)) != Mul(Mul(a, b), c) || Mul(a, Add(b, c)) != Add(Mul(a, b), Mul(a, c)) || Add(Sub(a, b), b) != Reduce(a) {
			t.Fatal(a, b, c)
		}
	}
}

// P8.3: roots are even, and each square has one.
func TestRoots(t *testing.T) {
	minusOne := Sub([32]byte{}, [32]byte{1})
	i, ok := Root(minusOne)
	if !ok || Mul(i, i) != minusOne {
		t.Fatal("root of -1")
	}
	for _, a := range numbers() {
		x := new(big.Int).Mod(toBig(a), prime)
		r, ok := Root(a)
		if ok != (big.Jacobi(x, prime) >= 0) {
			t.Fatal(x, ok)
		}
		if ok && (Mul(r, r) != Reduce(a) || r[0]&1 != 0 || !Right(r)) || !ok && r != [32]byte{} {
			t.Fatal(x, r)
		}
		if _, other := Root(Mul(a, i)); x.Sign() != 0 && other == ok {
			t.Fatal(x)
		}
		if s, ok := Root(Mul(a, a)); !ok || s != Reduce(a) && s != Sub([32]byte{}, a) {
			t.Fatal("square", x)
		}
	}
	if r, ok := Root([32]byte{4}); !ok || r != [32]byte{2} {
		t.Error(r, ok)
	}
	if r, ok := Root(fromBig(prime)); !ok || r != [32]byte{} {
		t.Error(r, ok)
	}
}

func BenchmarkTimes(b *testing.B) {
	x := Load(numbers()[100])
	for b.Loop() {
		x = x.Times(x)
	}
}
