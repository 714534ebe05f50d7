package disk

import (
	"math"
	"math/rand"
	"reflect"
	"slices"
	"testing"

	"vouchsafe/api"
)

func sector(b byte) (s api.Sector) {
	for i := range s {
		s[i] = b
	}
	return s
}

func must(t *testing.T) func(api.Disk, api.Errno) api.Disk {
	return func(d api.Disk, e api.Errno) api.Disk {
		t.Helper()
		if e != api.OK || !Right(d) {
			t.Fatal(e)
		}
		return d
	}
}

func TestNew(t *testing.T) {
	for _, n := range []int{1, 2, 2048} {
		d, e := New(n)
		if e != api.OK || len(d.Sectors) != n || d.Fuse != -1 || d.Down || len(d.Loose) > 0 || d.Sectors[n-1] != (api.Sector{}) || !Right(d) {
			t.Error(n, e)
		}
	}
	for _, n := range []int{0, -1, 2049, math.MaxInt, math.MinInt} {
		if d, e := New(n); e != api.ErrArg || !reflect.DeepEqual(d, api.Disk{}) {
			t.Error(n, e)
		}
	}
}

// P14.1: what isn't right is told, and told back.
func TestWrong(t *testing.T) {
	for i, d := range []api.Disk{{}, {Sectors: make([]api.Sector, 2049)}, {Sectors: make([]api.Sector, 2), Loose: []api.Write{{At: 2}}}, {Sectors: make([]api.Sector, 2), Loose: []api.Write{{At: 0}, {At: -1}}}, {Sectors: make([]api.Sector, 2), Loose: make([]api.Write, 4097), Down: true}} {
		_, e1 := Read(d, 0)
		d2, e2 := Write(d, 0, sector(1))
		d3, e3 := Sync(d)
		d4, e4 := Fall(d, nil, 3)
		if Right(d) || e1 != api.ErrArg || e2 != api.ErrArg || e3 != api.ErrArg || e4 != api.ErrArg || !reflect.DeepEqual([]api.Disk{d2, d3, d4}, []api.Disk{d, d, d}) {
			t.Error(i, e1, e2, e3, e4)
		}
		if Arm(d, 5).Fuse != 5 || Arm(d, -9).Fuse != -1 {
			t.Error("arm")
		}
	}
	d, _ := New(3)
	d.Down = true
	for _, at := range []int{-1, 3, math.MinInt} {
		_, e := Read(d, at)
		w, f := Write(d, at, sector(1))
		if e != api.ErrArg || f != api.ErrArg || !reflect.DeepEqual(d, w) {
			t.Error(at, e, f)
		}
	}
	s, e := Read(d, 0)
	w, f := Write(d, 0, sector(1))
	y, g := Sync(d)
	if s != (api.Sector{}) || e != api.ErrDown || f != api.ErrDown || g != api.ErrDown || !reflect.DeepEqual([]api.Disk{w, y}, []api.Disk{d, d}) {
		t.Error(e, f, g)
	}
}

func TestFuse(t *testing.T) {
	ok := must(t)
	d, _ := New(2)
	d = Arm(d, 2)
	d = ok(Write(d, 0, sector(1)))
	d = ok(Sync(d))
	if d.Fuse != 0 || d.Down {
		t.Error(d.Fuse)
	}
	w, e := Write(d, 1, sector(2))
	s, f := Sync(d)
	for _, x := range []api.Disk{w, s} {
		if e != api.ErrDown || f != api.ErrDown || !x.Down || x.Fuse != 0 || len(x.Loose) > 0 || x.Sectors[0] != sector(1) {
			t.Error(e, f)
		}
	}
	if d.Down {
		t.Error("handed in")
	}
	full := Arm(api.Disk{Sectors: make([]api.Sector, 1), Loose: make([]api.Write, 4096)}, 0)
	if x, e := Write(full, 0, sector(1)); e != api.ErrFull || x.Down || len(x.Loose) != 4096 {
		t.Error(e)
	}
	full.Loose = full.Loose[:4095]
	full.Fuse = 7
	if x, e := Write(full, 0, sector(1)); e != api.OK || x.Fuse != 6 || len(x.Loose) != 4096 || !Right(x) {
		t.Error(e)
	}
}

func TestLastIsRead(t *testing.T) {
	ok := must(t)
	d, _ := New(2)
	one := ok(Write(d, 0, sector(1)))
	two := ok(Write(one, 0, sector(2)))
	other := ok(Write(one, 0, sector(3)))
	for i, x := range []struct {
		d    api.Disk
		want byte
	}{{d, 0}, {one, 1}, {two, 2}, {other, 3}, {ok(Sync(two)), 2}, {ok(Fall(two, nil, 0)), 0}} {
		if s, e := Read(x.d, 0); e != api.OK || s != sector(x.want) {
			t.Error(i, s, e)
		}
	}
	if d.Sectors[0] != (api.Sector{}) || len(two.Loose) != 2 {
		t.Error("handed in")
	}
}

func TestFall(t *testing.T) {
	ok := must(t)
	d, _ := New(4)
	d = ok(Write(d, 0, sector(9)))
	d = ok(Sync(d))
	d = ok(Write(d, 0, sector(1)))
	d = ok(Write(d, 1, sector(2)))
	d = ok(Write(d, 0, sector(3)))
	d = ok(Write(d, 2, sector(4)))
	d.Down = true
	part := func(n int, a, b byte) api.Sector {
		s := sector(b)
		for i := range n {
			s[i] = a
		}
		return s
	}
	for i, x := range []struct {
		fates []api.Fate
		want  [3]api.Sector
	}{
		{nil, [3]api.Sector{sector(9), sector(0), sector(0)}},
		{[]api.Fate{{Kind: 1}}, [3]api.Sector{sector(3), sector(2), sector(4)}},
		{[]api.Fate{{Kind: 4}, {Kind: 3}}, [3]api.Sector{sector(3), sector(0), sector(0)}},
		{[]api.Fate{{Kind: 2, Cut: 3}}, [3]api.Sector{part(3, 3, 9), part(3, 2, 0), part(3, 4, 0)}},
		{[]api.Fate{{Kind: 1}, {Kind: 0}, {Kind: 5, Cut: 131}}, [3]api.Sector{part(3, 3, 1), sector(0), sector(4)}},
		{[]api.Fate{{Kind: 254, Cut: 128}, {Kind: 255}, {Kind: 0}, {Kind: 2, Cut: 127}}, [3]api.Sector{sector(9), sector(0), part(127, 4, 0)}},
	} {
		f, e := Fall(d, x.fates, 5)
		if e != api.OK || f.Down || len(f.Loose) > 0 || f.Fuse != 5 || [3]api.Sector(f.Sectors[:3]) != x.want || !Right(f) {
			t.Error(i, e, f.Sectors[:3])
		}
	}
	if f, _ := Fall(d, nil, math.MinInt); f.Fuse != -1 {
		t.Error(f.Fuse)
	}
	if d.Sectors[0] != sector(9) || len(d.Loose) != 4 {
		t.Error("handed in")
	}
}

// P14.2: what was synced is read behind every fall, where nothing was written since; else a beginning of the new, an end of the old.
func TestSure(t *testing.T) {
	ok := must(t)
	rnd := rand.New(rand.NewSource(14))
	for range 300 {
		d, _ := New(4)
		sure := [4]byte{}
		for range 3 {
			for i := range sure {
				sure[i] = byte(rnd.Intn(250))
				d = ok(Write(d, i, sector(sure[i])))
			}
		}
		d = ok(Sync(d))
		var since [4]int
		for range rnd.Intn(4) {
			at := rnd.Intn(4)
			since[at]++
			d = ok(Write(d, at, sector(255)))
		}
		fates := make([]api.Fate, rnd.Intn(4))
		for i := range fates {
			fates[i] = api.Fate{Kind: uint8(rnd.Intn(256)), Cut: uint8(rnd.Intn(256))}
		}
		d = ok(Fall(d, fates, -1))
		for i := range sure {
			s, _ := Read(d, i)
			n := 0
			for n < len(s) && s[n] == 255 {
				n++
			}
			if since[i] == 0 && n > 0 || slices.ContainsFunc(s[n:], func(b byte) bool { return b != sure[i] }) {
				t.Fatal(i, s)
			}
		}
	}
}

// P1: the spare room of a list that is handed in stays as it is.
func TestSpareRoom(t *testing.T) {
	l := []api.Write{{At: 0}, {At: 1, Data: sector(7)}}
	d := api.Disk{Sectors: make([]api.Sector, 2), Loose: l[:1], Fuse: -1}
	if _, e := Write(d, 0, sector(1)); e != api.OK || l[1].At != 1 || l[1].Data != sector(7) {
		t.Error("changed", e)
	}
}
