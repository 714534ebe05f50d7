package journal

import (
	"vouchsafe/api"
	"vouchsafe/disk"
)

// half is one of a disk's two: size sectors, from one on.
type half struct {
	api.Disk
	from, size int
}

func halfOf(d api.Disk, number int) half {
	size := len(d.Sectors) / 2
	return half{d, number * size, size}
}

// page is what a sector of the half says, which stands at its own index.
func (h *half) page(index int) (page, bool) {
	s, e := disk.Read(h.Disk, h.from+index)
	if e != api.OK {
		return page{}, false
	}
	p, ok := unseal(s)
	return p, ok && p.index == index
}

// reader reads a half's records of one generation, from an index on.
type reader struct {
	half
	gen, at int
}

// record reads the next one, if it is whole.
func (r *reader) record() ([]byte, bool) {
	data := []byte{}
	for at := r.at; at < r.size; at++ {
		p, ok := r.page(at)
		if !ok || p.gen != r.gen || (p.marks&first != 0) != (at == r.at) {
			return nil, false
		}
		data = append(data, p.data...)
		if p.marks&last != 0 {
			// A sector more than the bytes need is none of a record's.
			if at > r.at && len(p.data) == 0 {
				return nil, false
			}
			r.at = at + 1
			return data, true
		}
		if len(p.data) != maxData {
			return nil, false
		}
	}
	return nil, false
}

// records are a half's, and its generation, if it holds.
func (h half) records() ([][]byte, int, bool) {
	p, ok := h.page(0)
	if !ok {
		return nil, 0, false
	}
	sectors, ok := p.snapshot()
	if !ok || sectors > h.size-1 {
		return nil, 0, false
	}
	r := &reader{h, p.gen, 1}
	var l [][]byte
	for r.at < 1+sectors {
		record, ok := r.record()
		if !ok || r.at > 1+sectors {
			return nil, 0, false
		}
		l = append(l, record)
	}
	for {
		record, ok := r.record()
		if !ok {
			return l, p.gen, true
		}
		l = append(l, record)
	}
}

// writer lays pages into a half; once something errs, nothing more is done.
type writer struct {
	half
	e api.Errno
}

func (w *writer) write(p page) {
	if w.e == api.OK {
		w.Disk, w.e = disk.Write(w.Disk, w.from+p.index, seal(p))
	}
}

func (w *writer) sync() {
	if w.e == api.OK {
		w.Disk, w.e = disk.Sync(w.Disk)
	}
}

// done is the disk behind all: as it is then, if the power went, else as it was, if something erred.
func (w *writer) done(was api.Disk) (api.Disk, api.Errno) {
	if w.e != api.OK && w.e != api.ErrDown {
		return was, w.e
	}
	return w.Disk, w.e
}
