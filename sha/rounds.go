package sha

type word interface{ uint32 | uint64 }

// rounds is a sum under way, by words of one width; big and low are what turns a word, in rounds and ahead of them.
type rounds[W word] struct {
	width, count           int
	state                  [8]W
	big0, big1, low0, low1 func(W) W
}

// cut is the first bits of a root's fraction, as many as a word has.
func (r *rounds[W]) cut(root uint64) W {
	return W(root >> uint(great-r.width))
}

func (r *rounds[W]) begin() {
	for i := range r.state {
		r.state[i] = r.cut(squares[i])
	}
}

// all takes the parts, and what is padded behind them.
func (r *rounds[W]) all(parts [][]byte) {
	block := blockSize(r.width)
	held := make([]byte, 0, block)
	total := 0
	for _, p := range parts {
		total += len(p)
		for len(p) > 0 {
			n := min(block-len(held), len(p))
			held = append(held, p[:n]...)
			p = p[n:]
			if len(held) == block {
				r.take(held)
				held = held[:0]
			}
		}
	}
	r.last(held, total)
}

// last takes the bytes that are left, padded.
func (r *rounds[W]) last(held []byte, total int) {
	padded := make([]byte, Padded(len(held), r.width))
	copy(padded, held)
	padded[len(held)] = 0x80
	bits := uint64(total) * 8
	for i := range 8 {
		padded[len(padded)-1-i] = byte(bits >> (8 * i))
	}
	block := blockSize(r.width)
	for len(padded) > 0 {
		r.take(padded[:block])
		padded = padded[block:]
	}
}

// schedule is the words of a block, and those that are made of them.
func (r *rounds[W]) schedule(block []byte) [80]W {
	var m [80]W
	size := r.width / 8
	for i := range 16 {
		var x W
		for _, c := range block[i*size : (i+1)*size] {
			x = x<<8 | W(c)
		}
		m[i] = x
	}
	for i := 16; i < r.count; i++ {
		m[i] = m[i-16] + r.low0(m[i-15]) + m[i-7] + r.low1(m[i-2])
	}
	return m
}

// take adds a block of sixteen words to the sum.
func (r *rounds[W]) take(block []byte) {
	m := r.schedule(block)
	a, b, c, d := r.state[0], r.state[1], r.state[2], r.state[3]
	e, f, g, h := r.state[4], r.state[5], r.state[6], r.state[7]
	for i := range r.count {
		t := h + r.big1(e) + (e&f ^ ^e&g) + r.cut(cubes[i]) + m[i]
		u := r.big0(a) + (a&b ^ a&c ^ b&c)
		h, g, f, e = g, f, e, d+t
		d, c, b, a = c, b, a, t+u
	}
	for i, x := range [8]W{a, b, c, d, e, f, g, h} {
		r.state[i] += x
	}
}

// tell lays the sum out, the highest byte first.
func (r *rounds[W]) tell(sum []byte) {
	size := r.width / 8
	for i := range sum {
		sum[i] = byte(r.state[i/size] >> (8 * (size - 1 - i%size)))
	}
}
