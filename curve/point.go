package curve

import "vouchsafe/field"

// plane is a point by its two numbers, or those two of a point in space.
type plane struct {
	x, y field.Limbs
}

// point is a point as x / z and y / z, with t = x y / z: so sums need no division.
type point struct {
	plane
	z, t field.Limbs
}

// d is -121665 divided by 121666.
var d = field.Limbs{929955233495203, 466365720129213, 1662059464998953, 2033849074728123, 1442794654840575}

// base is the base point: y is 4 divided by 5, and x even.
var base = plane{
	x: field.Limbs{1738742601995546, 1146398526822698, 2070867633025821, 562264141797630, 587772402128613},
	y: field.Limbs{1801439850948184, 1351079888211148, 450359962737049, 900719925474099, 1801439850948198},
}

func (p plane) sum() field.Limbs {
	return p.y.Plus(p.x)
}

func (p plane) difference() field.Limbs {
	return p.y.Minus(p.x)
}

func (p plane) negative() plane {
	return plane{p.x.Negative(), p.y}
}

// raised is the point in space.
func (p plane) raised() point {
	return point{p, field.Small(1), p.x.Times(p.y)}
}

func (p plane) bytes() [32]byte {
	b := p.y.Bytes()
	if p.x.Odd() {
		b[31] |= 0x80
	}
	return b
}

// load reads a point's bytes.
func load(b [32]byte) (point, bool) {
	odd := b[31]&0x80 != 0
	b[31] &= 0x7f
	if !field.Right(b) {
		return point{}, false
	}
	y := field.Load(b)
	square := y.Times(y)
	one := field.Small(1)
	// y y - x x = 1 + d x x y y, solved for x x; -1 / d is no square, so that nothing is divided by 0.
	x, ok := square.Minus(one).Times(square.Times(d).Plus(one).Inverse()).Root()
	if !ok || odd && x.Same(field.Limbs{}) {
		return point{}, false
	}
	p := plane{x, y}
	if odd {
		p = p.negative()
	}
	return p.raised(), true
}

// flat is the point in the plane.
func (p point) flat() plane {
	i := p.z.Inverse()
	return plane{p.x.Times(i), p.y.Times(i)}
}

// with is the sum; it holds for all points, equal ones too.
func (p point) with(q point) point {
	a := p.difference().Times(q.difference())
	b := p.sum().Times(q.sum())
	c := p.t.Times(q.t).Times(d)
	c = c.Plus(c)
	f := p.z.Times(q.z)
	f = f.Plus(f)
	return crossed(b.Minus(a), f.Minus(c), f.Plus(c), b.Plus(a))
}

// doubled is p and p together, with less work.
func (p point) doubled() point {
	a, b, c := p.x.Times(p.x), p.y.Times(p.y), p.z.Times(p.z)
	c = c.Plus(c)
	s := p.sum()
	e := s.Times(s).Minus(a).Minus(b)
	g := b.Minus(a)
	return crossed(e, g.Minus(c), g, a.Plus(b).Negative())
}

// crossed is the point that such four numbers make, as both sums end.
func crossed(e, f, g, h field.Limbs) point {
	return point{plane{e.Times(f), g.Times(h)}, f.Times(g), e.Times(h)}
}

// nothing is the point (0, 1), which changes no sum.
func nothing() point {
	return plane{y: field.Small(1)}.raised()
}

// multiples are a point 0 to 15 times.
func multiples(p point) [16]point {
	m := [16]point{nothing()}
	for i := range 15 {
		m[i+1] = m[i].with(p)
	}
	return m
}

// many is each of the points so many times, together; four bits at once, the highest first, so that fewer sums are needed.
func many(times [][32]byte, points []point) point {
	tables := make([][16]point, len(points))
	for j, p := range points {
		tables[j] = multiples(p)
	}
	r := nothing()
	for i := range 64 {
		at := 63 - i
		for range 4 {
			r = r.doubled()
		}
		for j := range tables {
			r = r.with(tables[j][times[j][at/2]>>(4*(at%2))&15])
		}
	}
	return r
}
