package curve

import (
	"math/rand"
	"testing"

	"vouchsafe/api"
	"vouchsafe/field"
	"vouchsafe/scalar"
)

var (
	zero = [32]byte{}
	one  = [32]byte{1}
	none = [32]byte{1} // the point (0, 1)
)

func minus(a [32]byte) [32]byte { return field.Sub(zero, a) }

// dee is d, as the words say.
func dee() [32]byte {
	return field.Mul(minus([32]byte{0x41, 0xdb, 1}), field.Inv([32]byte{0x42, 0xdb, 1}))
}

// parts are a point's numbers, found again by the words alone.
func parts(p [32]byte) (x, y [32]byte, ok bool) {
	y = p
	y[31] &= 0x7f
	if !field.Right(y) {
		return x, y, false
	}
	yy := field.Mul(y, y)
	x, ok = field.Root(field.Mul(field.Sub(yy, one), field.Inv(field.Add(one, field.Mul(dee(), yy)))))
	odd := p[31]&0x80 != 0
	if !ok || odd && x == zero {
		return x, y, false
	}
	if odd {
		x = minus(x)
	}
	return x, y, true
}

func pack(x, y [32]byte) [32]byte {
	y[31] |= x[0] << 7
	return y
}

// plain is the sum as the words say it.
func plain(p, q [32]byte) [32]byte {
	x, y, _ := parts(p)
	u, v, _ := parts(q)
	m := field.Mul
	k := m(m(dee(), m(x, u)), m(y, v))
	return pack(m(field.Add(m(x, v), m(u, y)), field.Inv(field.Add(one, k))), m(field.Add(m(y, v), m(x, u)), field.Inv(field.Sub(one, k))))
}

// few are the points of small order, made from what the words say of a point: times a point by the order leaves one of them.
func few() [][32]byte {
	l := [][32]byte{none, minus(one), zero, {31: 0x80}}
	order := scalarOrder()
	for i := byte(2); len(l) < 8; i++ {
		p := [32]byte{i}
		if q, e := Times(order, p); e == api.OK {
			known := false
			for _, r := range l {
				known = known || r == q
			}
			if !known {
				l = append(l, q)
			}
		}
	}
	return l
}

func scalarOrder() [32]byte {
	n := scalar.Neg(one)
	n[0]++
	return n
}

func points() [][32]byte {
	l := few()
	for i := range byte(6) {
		l = append(l, Base([32]byte{i + 1}), Base([32]byte{i, 31: i}))
	}
	for i := range byte(20) {
		if p := ([32]byte{i + 3, 1}); Right(p) {
			l = append(l, p)
		}
	}
	return l
}

// P10.1: sums as the words say.
func TestAdd(t *testing.T) {
	all := points()
	for _, p := range all {
		for _, q := range all {
			r, e := Add(p, q)
			if e != api.OK || r != plain(p, q) {
				t.Fatal(p, q, r, e)
			}
			if s, _ := Add(q, p); s != r {
				t.Fatal(p, q)
			}
		}
		x, y, _ := parts(p)
		n, e := Neg(p)
		if s, _ := Add(p, n); e != api.OK || n != pack(minus(x), y) || s != none {
			t.Fatal(p, n, e)
		}
		if s, _ := Add(p, none); s != p {
			t.Fatal(p, s)
		}
	}
}

// P10.2: how three are put together changes nothing.
func TestGroup(t *testing.T) {
	all := points()
	rnd := rand.New(rand.NewSource(1))
	for range 300 {
		p, q, r := all[rnd.Intn(len(all))], all[rnd.Intn(len(all))], all[rnd.Intn(len(all))]
		a, _ := Add(p, q)
		a, _ = Add(a, r)
		b, _ := Add(q, r)
		b, _ = Add(p, b)
		if a != b {
			t.Fatal(p, q, r)
		}
	}
}

// P10.1 and P10.3: so many times, added one by one; so many and so many more.
func TestTimes(t *testing.T) {
	all := points()
	for _, p := range all[:12] {
		sum := none
		for k := range byte(20) {
			r, e := Times([32]byte{k}, p)
			m, f := Mix([32]byte{k}, p, [32]byte{k})
			b, _ := Add(sum, Base([32]byte{k}))
			if e != api.OK || f != api.OK || r != sum || m != b {
				t.Fatal(p, k)
			}
			sum, _ = Add(sum, p)
		}
	}
	rnd := rand.New(rand.NewSource(2))
	for range 60 {
		var j, k [32]byte
		rnd.Read(j[:31])
		rnd.Read(k[:31])
		p := all[rnd.Intn(len(all))]
		a, _ := Times(j, p)
		b, _ := Times(k, p)
		s, _ := Add(a, b)
		both, carry := [32]byte{}, 0
		for i := range both {
			carry += int(j[i]) + int(k[i])
			both[i] = byte(carry)
			carry >>= 8
		}
		if c, _ := Times(both, p); c != s {
			t.Fatal(j, k, p)
		}
	}
	// The greatest number of times is more than the order: small points tell whether it was cut.
	most := minus(one)
	for i := range most {
		most[i] = 0xff
	}
	for _, p := range few() {
		n, _ := Neg(p)
		if q, _ := Times(most, p); q != n {
			t.Fatal("2^256 - 1 times", p, q)
		}
	}
	if Base(scalarOrder()) != none || Base(zero) != none {
		t.Error("the order")
	}
}

func TestBase(t *testing.T) {
	want := [32]byte{0x58}
	for i := range 31 {
		want[i+1] = 0x66
	}
	if Base(one) != want || field.Mul(want, [32]byte{5}) != [32]byte{4} {
		t.Error(Base(one))
	}
	if x, _, ok := parts(want); !ok || x[0]&1 != 0 {
		t.Error("x")
	}
	if d.Bytes() != dee() {
		t.Error("d")
	}
}

// P10.1: which bytes are a point's.
func TestRight(t *testing.T) {
	p := minus(one)
	p[0]++ // the prime itself
	rightOnes, wrongOnes := 0, 0
	check := func(b [32]byte) {
		_, _, want := parts(b)
		if Right(b) != want {
			t.Fatal(b, want)
		}
		if want {
			rightOnes++
			return
		}
		wrongOnes++
		other := Base(one)
		for i, f := range []func() ([32]byte, api.Errno){
			func() ([32]byte, api.Errno) { return Add(b, other) }, func() ([32]byte, api.Errno) { return Add(other, b) }, func() ([32]byte, api.Errno) { return Neg(b) },
			func() ([32]byte, api.Errno) { return Times(zero, b) }, func() ([32]byte, api.Errno) { return Mix(zero, b, one) },
		} {
			if r, e := f(); e != api.ErrArg || r != zero {
				t.Fatal(i, b, r, e)
			}
		}
	}
	for i := range byte(19) {
		b := p
		b[0] += i
		check(b)
		b[31] |= 0x80
		check(b)
		check([32]byte{i})
		check([32]byte{i, 31: 0x80})
	}
	if Right([32]byte{1, 31: 0x80}) || Right(p) {
		t.Error("edges")
	}
	if rightOnes < 10 || wrongOnes < 30 {
		t.Error(rightOnes, wrongOnes)
	}
}

func BenchmarkMix(b *testing.B) {
	var k [32]byte
	for i := range k {
		k[i] = byte(i * 91)
	}
	p := Base(k)
	for b.Loop() {
		Mix(k, p, k)
	}
}
