package field

import "math/bits"

// Limbs is a number modulo p as five limbs of 51 bits, the lowest first; a limb may be a little above that, so that sums need no full carry.
type Limbs [5]uint64

const (
	limbBits = 51
	limbMask = 1<<limbBits - 1
)

// Small is a number of 32 bits.
func Small(n uint32) Limbs {
	return Limbs{uint64(n)}
}

// word is eight bytes of a number, the lowest first.
func word(a *[32]byte, at int) uint64 {
	var x uint64
	for i := range 8 {
		x |= uint64(a[at+i]) << (8 * i)
	}
	return x
}

// Load takes any 256 bits.
func Load(a [32]byte) Limbs {
	w0, w1, w2, w3 := word(&a, 0), word(&a, 8), word(&a, 16), word(&a, 24)
	x := Limbs{
		w0 & limbMask,
		(w0>>51 | w1<<13) & limbMask,
		(w1>>38 | w2<<26) & limbMask,
		(w2>>25 | w3<<39) & limbMask,
		w3 >> 12,
	}
	return x.carried()
}

// carried moves what is above 51 bits into the next limb; 2^255 is 19 modulo p.
func (x Limbs) carried() Limbs {
	c0, c1, c2, c3, c4 := x[0]>>limbBits, x[1]>>limbBits, x[2]>>limbBits, x[3]>>limbBits, x[4]>>limbBits
	return Limbs{
		x[0]&limbMask + c4*19,
		x[1]&limbMask + c0,
		x[2]&limbMask + c1,
		x[3]&limbMask + c2,
		x[4]&limbMask + c3,
	}
}

// Bytes is the reduced number.
func (x Limbs) Bytes() [32]byte {
	x = x.carried()
	// With 19 more, a number from p on runs over 2^255: over tells whether it does.
	over := (x[0] + 19) >> limbBits
	for i := range 4 {
		over = (x[i+1] + over) >> limbBits
	}
	x[0] += 19 * over
	for i := range 4 {
		x[i+1] += x[i] >> limbBits
		x[i] &= limbMask
	}
	x[4] &= limbMask
	words := [4]uint64{x[0] | x[1]<<51, x[1]>>13 | x[2]<<38, x[2]>>26 | x[3]<<25, x[3]>>39 | x[4]<<12}
	var b [32]byte
	for i := range b {
		b[i] = byte(words[i/8] >> (8 * (i % 8)))
	}
	return b
}

// Plus is a sum.
func (x Limbs) Plus(y Limbs) Limbs {
	for i := range x {
		x[i] += y[i]
	}
	return x.carried()
}

// Minus is a difference; twice p is added, so that no limb falls below 0.
func (x Limbs) Minus(y Limbs) Limbs {
	x[0] += 2*(limbMask-18) - y[0]
	for i := range 4 {
		x[i+1] += 2*limbMask - y[i+1]
	}
	return x.carried()
}

// Negative is what makes 0 with x.
func (x Limbs) Negative() Limbs {
	return Limbs{}.Minus(x)
}

// wide is a number of 128 bits.
type wide struct{ high, low uint64 }

// more adds a product.
func (w wide) more(a, b uint64) wide {
	high, low := bits.Mul64(a, b)
	low, c := bits.Add64(w.low, low, 0)
	high, _ = bits.Add64(w.high, high, c)
	return wide{high, low}
}

// shifted is w without its lowest 51 bits.
func (w wide) shifted() uint64 {
	return w.high<<(64-limbBits) | w.low>>limbBits
}

// Times is a product.
func (x Limbs) Times(y Limbs) Limbs {
	x0, x1, x2, x3, x4 := x[0], x[1], x[2], x[3], x[4]
	y0, y1, y2, y3, y4 := y[0], y[1], y[2], y[3], y[4]
	// What lies above 2^255 comes in again, 19 times.
	z1, z2, z3, z4 := x1*19, x2*19, x3*19, x4*19
	r0 := wide{}.more(x0, y0).more(z1, y4).more(z2, y3).more(z3, y2).more(z4, y1)
	r1 := wide{}.more(x0, y1).more(x1, y0).more(z2, y4).more(z3, y3).more(z4, y2)
	r2 := wide{}.more(x0, y2).more(x1, y1).more(x2, y0).more(z3, y4).more(z4, y3)
	r3 := wide{}.more(x0, y3).more(x1, y2).more(x2, y1).more(x3, y0).more(z4, y4)
	r4 := wide{}.more(x0, y4).more(x1, y3).more(x2, y2).more(x3, y1).more(x4, y0)
	return Limbs{
		r0.low&limbMask + r4.shifted()*19,
		r1.low&limbMask + r0.shifted(),
		r2.low&limbMask + r1.shifted(),
		r3.low&limbMask + r2.shifted(),
		r4.low&limbMask + r3.shifted(),
	}.carried()
}

// Power is x taken n times, n any 256 bits.
func (x Limbs) Power(n [32]byte) Limbs {
	r := Small(1)
	for i := range 256 {
		r = r.Times(r)
		at := 255 - i
		if n[at/8]>>(at%8)&1 == 1 {
			r = r.Times(x)
		}
	}
	return r
}

// Same: do they stand for one number?
func (x Limbs) Same(y Limbs) bool {
	return x.Bytes() == y.Bytes()
}

// Odd: is the reduced number's lowest bit 1?
func (x Limbs) Odd() bool {
	return x.Bytes()[0]&1 == 1
}

// Inverse is what makes 1 with x; 0 of 0.
func (x Limbs) Inverse() Limbs {
	return x.Power(power(0xeb, 0x7f)) // p - 2
}

// rootOfMinusOne makes p - 1 with itself.
var rootOfMinusOne = Limbs{1718705420411056, 234908883556509, 2233514472574048, 2117202627021982, 765476049583133}

// Root is the even number that makes x with itself, if there is one.
func (x Limbs) Root() (Limbs, bool) {
	r := x.Power(power(0xfe, 0x0f)) // (p + 3) / 8: the square is x or -x, where x has a root
	if !r.Times(r).Same(x) {
		r = r.Times(rootOfMinusOne)
	}
	if !r.Times(r).Same(x) {
		return Limbs{}, false
	}
	if r.Odd() {
		r = r.Negative()
	}
	return r, true
}

// power is a number of 1 bits, but for its lowest and its highest byte.
func power(lowest, highest byte) [32]byte {
	var n [32]byte
	for i := range n {
		n[i] = 0xff
	}
	n[0], n[31] = lowest, highest
	return n
}
