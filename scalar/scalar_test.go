package scalar

import (
	"math/big"
	"math/rand"
	"testing"
)

func orderBig() *big.Int {
	n, _ := new(big.Int).SetString("27742317777372353535851937790883648493", 10)
	return n.Add(n, new(big.Int).Lsh(big.NewInt(1), 252))
}

func toBig(a []byte) *big.Int {
	n := new(big.Int)
	for i := range a {
		n.Lsh(n, 8).Or(n, big.NewInt(int64(a[len(a)-1-i])))
	}
	return n
}

func fill(n *big.Int, out []byte) {
	b := new(big.Int).Mod(n, new(big.Int).Lsh(big.NewInt(1), uint(8*len(out)))).FillBytes(make([]byte, len(out)))
	for i := range out {
		out[i] = b[len(b)-1-i]
	}
}

func short32(n *big.Int) (a [32]byte) {
	fill(n, a[:])
	return a
}

func numbers() [][32]byte {
	var l [][32]byte
	for _, times := range []int64{0, 1, 2, 15, 16} {
		for d := int64(-2); d < 3; d++ {
			n := new(big.Int).Mul(orderBig(), big.NewInt(times))
			l = append(l, short32(n.Add(n, big.NewInt(d))))
		}
	}
	rnd := rand.New(rand.NewSource(9))
	for range 20 {
		var a [32]byte
		rnd.Read(a[:])
		l = append(l, a)
	}
	return l
}

func mod(n *big.Int) [32]byte { return short32(n.Mod(n, orderBig())) }

// P9.1 and P9.2: every call as another program's numbers say.
func TestNumbers(t *testing.T) {
	all := numbers()
	for _, a := range all {
		x := toBig(a[:])
		if Right(a) != (x.Cmp(orderBig()) < 0) {
			t.Fatal("right", x)
		}
		if Neg(a) != mod(new(big.Int).Neg(x)) {
			t.Fatal("neg", x)
		}
		one := [32]byte{1}
		if MulAdd(a, one, Neg(a)) != [32]byte{} {
			t.Fatal("a ring", x)
		}
		for _, b := range all {
			for _, c := range all[:30] {
				y, z := toBig(b[:]), toBig(c[:])
				want := mod(z.Add(z, y.Mul(y, x)))
				if MulAdd(a, b, c) != want || MulAdd(b, a, c) != want {
					t.Fatal(a, b, c)
				}
			}
		}
	}
}

func TestReduce(t *testing.T) {
	rnd := rand.New(rand.NewSource(10))
	for i := range 300 {
		var a [64]byte
		switch {
		case i < 100:
			rnd.Read(a[:])
		case i < 200:
			rnd.Read(a[rnd.Intn(64):])
		case i == 200:
			fill(big.NewInt(-1), a[:])
		default:
			n := new(big.Int).Lsh(orderBig(), uint(rnd.Intn(259)))
			fill(n.Add(n, big.NewInt(int64(rnd.Intn(3)-1))), a[:])
		}
		if Reduce(a) != mod(toBig(a[:])) {
			t.Fatal(a)
		}
	}
	var l [64]byte
	fill(orderBig(), l[:])
	if Reduce(l) != [32]byte{} || MulAdd([32]byte{2}, [32]byte{3}, [32]byte{4}) != [32]byte{10} || Neg([32]byte{}) != [32]byte{} {
		t.Error("examples")
	}
}

func TestClamp(t *testing.T) {
	var none, all [32]byte
	for i := range all {
		all[i] = 0xff
	}
	want := all
	want[0], want[31] = 0xf8, 0x7f
	if Clamp(all) != want || Clamp(none) != [32]byte{31: 0x40} {
		t.Error(Clamp(all), Clamp(none))
	}
	rnd := rand.New(rand.NewSource(11))
	for range 100 {
		var a [32]byte
		rnd.Read(a[:])
		c := Clamp(a)
		if c[0]&7 != 0 || c[31]&0xc0 != 0x40 || [30]byte(c[1:31]) != [30]byte(a[1:31]) || c[0] != a[0]&^7 || c[31]&0x3f != a[31]&0x3f || Clamp(c) != c {
			t.Fatal(a, c)
		}
	}
}

func BenchmarkReduce(b *testing.B) {
	var a [64]byte
	for i := range a {
		a[i] = byte(i * 37)
	}
	for b.Loop() {
		Reduce(a)
	}
}
