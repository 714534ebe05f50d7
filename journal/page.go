package journal

import (
	"vouchsafe/api"
	"vouchsafe/sha"
)

// The marks of a sector within its record.
const (
	first = 1 << iota
	last
	allMarks = first | last
)

const (
	maxData    = 100 // bytes of data in a sector
	dataAt     = 14  // where they begin
	sumAt      = 120 // where the seal begins
	maxGen     = 1 << 40
	headerWord = "log"
	headerSize = len(headerWord) + 4
)

// page is what a sealed sector says.
type page struct {
	gen, index, marks int
	data              []byte
}

// put lays a number's bytes out, the lowest first.
func put(b []byte, n int) {
	for i := range b {
		b[i] = byte(n >> (8 * i))
	}
}

// get reads a number's bytes; of eight, one that runs over is below 0, or above any generation.
func get(b []byte) int {
	n := 0
	for i := range b {
		n |= int(b[i]) << (8 * i)
	}
	return n
}

// seal is the sector of a page.
func seal(p page) api.Sector {
	var s api.Sector
	put(s[:8], p.gen)
	put(s[8:12], p.index)
	s[12] = byte(len(p.data))
	s[13] = byte(p.marks)
	copy(s[dataAt:sumAt], p.data)
	sum := sha.Sum256(s[:sumAt])
	copy(s[sumAt:], sum[:])
	return s
}

// unseal reads a sealed sector.
func unseal(s api.Sector) (page, bool) {
	gen, size := get(s[:8]), int(s[12])
	if gen < 1 || gen > maxGen || size > maxData || s[13] > allMarks {
		return page{}, false
	}
	p := page{gen, get(s[8:12]), int(s[13]), s[dataAt : dataAt+size]}
	// Sealed again, it shows what stands behind the data, and the sum.
	return p, seal(p) == s
}

// header is a half's first page: how many sectors its snapshot has.
func header(gen, sectors int) page {
	data := append([]byte(headerWord), 0, 0, 0, 0)
	put(data[len(headerWord):], sectors)
	return page{gen, 0, allMarks, data}
}

// snapshot is the number that a header tells.
func (p page) snapshot() (int, bool) {
	if p.index != 0 || p.marks != allMarks || len(p.data) != headerSize || string(p.data[:len(headerWord)]) != headerWord {
		return 0, false
	}
	return get(p.data[len(headerWord):]), true
}

// pages are a record's, from an index on.
func pages(gen, from int, record []byte) []page {
	var l []page
	for len(l) == 0 || len(record) > 0 {
		n := min(len(record), maxData)
		l = append(l, page{gen, from + len(l), 0, record[:n]})
		record = record[n:]
	}
	l[0].marks |= first
	l[len(l)-1].marks |= last
	return l
}
