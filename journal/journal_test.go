package journal

import (
	"bytes"
	"crypto/sha256"
	"encoding/binary"
	"math"
	"math/rand"
	"reflect"
	"strconv"
	"strings"
	"testing"

	"vouchsafe/api"
	"vouchsafe/disk"
)

// sealed is a sector as the words say it, laid out byte by byte.
func sealed(gen uint64, index uint32, marks byte, data string) api.Sector {
	var s api.Sector
	binary.LittleEndian.PutUint64(s[:], gen)
	binary.LittleEndian.PutUint32(s[8:], index)
	s[12], s[13] = byte(len(data)), marks
	copy(s[14:], data)
	sum := sha256.Sum256(s[:120])
	copy(s[120:], sum[:8])
	return s
}

func head(gen uint64, n byte) api.Sector {
	return sealed(gen, 0, 3, "log"+string([]byte{n, 0, 0, 0}))
}

func fresh(t *testing.T, n int, sectors ...api.Sector) api.Disk {
	t.Helper()
	d, e := disk.New(n)
	if e != api.OK {
		t.Fatal(e)
	}
	copy(d.Sectors, sectors)
	return d
}

func texts(l [][]byte) string {
	s := make([]string, len(l))
	for i := range l {
		s[i] = string(l[i])
	}
	return strings.Join(s, "|")
}

func rep(s string, n int) string { return strings.Repeat(s, n) }

func TestSize(t *testing.T) {
	for n, want := range map[int]int{-1: 0, 0: 1, 1: 1, 100: 1, 101: 2, 200: 2, 201: 3, 4096: 41, 4097: 0, math.MaxInt: 0, math.MinInt: 0} {
		if Size(n) != want {
			t.Error(n, Size(n))
		}
	}
}

// P15.1: the bytes on the disk, operation by operation.
func TestLaid(t *testing.T) {
	d := fresh(t, 17)
	d, l, e := Format(d)
	if e != api.OK || l != (api.Log{Half: 0, Gen: 1, Used: 1}) || d.Sectors[0] != head(1, 0) || len(d.Loose) > 0 {
		t.Fatal(l, e)
	}
	d, l, e = Append(d, l, []byte(rep("a", 150)))
	if e != api.OK || l.Used != 3 || d.Sectors[1] != sealed(1, 1, 1, rep("a", 100)) || d.Sectors[2] != sealed(1, 2, 2, rep("a", 50)) {
		t.Fatal(l, e)
	}
	d, l, e = Append(d, l, nil)
	if e != api.OK || l.Used != 4 || d.Sectors[3] != sealed(1, 3, 3, "") {
		t.Fatal(l, e)
	}
	d, l, records, e := Open(d)
	if e != api.OK || l != (api.Log{Half: 1, Gen: 2, Used: 4}) || texts(records) != rep("a", 150)+"|" {
		t.Fatal(l, e, texts(records))
	}
	if d.Sectors[8] != head(2, 3) || d.Sectors[9] != sealed(2, 1, 1, rep("a", 100)) || d.Sectors[11] != sealed(2, 3, 3, "") || d.Sectors[16] != (api.Sector{}) {
		t.Fatal("the other half")
	}
	d, l, e = Compact(d, l, [][]byte{[]byte("x"), []byte(rep("y", 100))})
	if e != api.OK || l != (api.Log{Half: 0, Gen: 3, Used: 3}) || d.Sectors[0] != head(3, 2) || d.Sectors[1] != sealed(3, 1, 3, "x") || d.Sectors[2] != sealed(3, 2, 3, rep("y", 100)) {
		t.Fatal(l, e)
	}
	if r, g, ok := Records(d, 1); !ok || g != 2 || texts(r) != rep("a", 150)+"|" {
		t.Fatal(g, ok)
	}
}

// Which halves hold, and which records they have.
func TestHolds(t *testing.T) {
	a, z := sealed(5, 1, 3, "a"), api.Sector{}
	hurt := sealed(5, 1, 3, "a")
	hurt[60] = 1
	torn := sealed(5, 2, 3, "b")
	torn[15] = 'x'
	behind := sealed(5, 1, 3, "a")
	behind[118] = 1
	sum := sha256.Sum256(behind[:120])
	copy(behind[120:], sum[:8])
	for i, x := range []struct {
		l    []api.Sector
		want string
		ok   bool
	}{
		{[]api.Sector{head(5, 0)}, "", true},
		{[]api.Sector{head(5, 1), a}, "a", true},
		{[]api.Sector{head(5, 0), a, sealed(5, 2, 1, rep("b", 100)), sealed(5, 3, 2, "c")}, "a|" + rep("b", 100) + "c", true},
		{[]api.Sector{head(5, 1), a, torn, sealed(5, 3, 3, "c")}, "a", true},
		{[]api.Sector{head(5, 1), a, sealed(4, 2, 3, "b")}, "a", true},
		{[]api.Sector{head(5, 1), a, sealed(5, 3, 3, "b")}, "a", true},
		{[]api.Sector{head(5, 1), a, sealed(5, 2, 2, "b")}, "a", true},
		{[]api.Sector{head(5, 1), a, sealed(5, 2, 0, rep("b", 100))}, "a", true},
		{[]api.Sector{head(5, 1), a, sealed(5, 2, 1, rep("b", 100)), sealed(5, 3, 3, "c")}, "a", true},
		{[]api.Sector{head(5, 1), a, sealed(5, 2, 1, rep("b", 100)), sealed(5, 3, 0, rep("b", 100))}, "a", true},
		{[]api.Sector{head(5, 1), a, sealed(5, 2, 1, "short"), sealed(5, 3, 2, "c")}, "a", true},
		{[]api.Sector{head(5, 1), a, sealed(5, 2, 1, rep("b", 100)), sealed(5, 3, 2, "")}, "a", true},
		{[]api.Sector{head(5, 3), sealed(5, 1, 1, rep("b", 100)), sealed(5, 2, 0, rep("c", 100)), sealed(5, 3, 2, "d")}, rep("b", 100) + rep("c", 100) + "d", true},
		{[]api.Sector{head(5, 2), sealed(5, 1, 1, rep("b", 100)), sealed(5, 2, 0, rep("c", 100)), sealed(5, 3, 2, "d")}, "", false},
		{[]api.Sector{head(5, 0), a, sealed(5, 2, 3, "b"), sealed(5, 3, 3, "c"), sealed(5, 4, 3, "the other half")}, "a|b|c", true},
		{[]api.Sector{head(5, 1)}, "", false}, {[]api.Sector{head(5, 1), z}, "", false}, {[]api.Sector{head(5, 1), hurt}, "", false}, {[]api.Sector{head(5, 1), behind}, "", false},
		{[]api.Sector{head(5, 2), a, torn}, "", false}, {[]api.Sector{head(5, 1), sealed(4, 1, 3, "a")}, "", false}, {[]api.Sector{head(5, 1), sealed(5, 2, 3, "a")}, "", false},
		{[]api.Sector{head(5, 4), a}, "", false}, {[]api.Sector{head(5, 3), a, sealed(5, 2, 3, ""), sealed(5, 3, 3, "")}, "a||", true},
		{[]api.Sector{z}, "", false}, {[]api.Sector{sealed(0, 0, 3, "log\x00\x00\x00\x00")}, "", false}, {[]api.Sector{head(1<<40, 0)}, "", true}, {[]api.Sector{head(1<<40+1, 0)}, "", false}, {[]api.Sector{head(1<<63, 0)}, "", false},
		{[]api.Sector{sealed(5, 1, 3, "log\x00\x00\x00\x00")}, "", false}, {[]api.Sector{sealed(5, 0, 1, "log\x00\x00\x00\x00")}, "", false}, {[]api.Sector{sealed(5, 0, 7, "log\x00\x00\x00\x00")}, "", false}, {[]api.Sector{sealed(5, 0, 3, "log\x00\x00\x00")}, "", false}, {[]api.Sector{sealed(5, 0, 3, "log\x00\x00\x00\x00\x00")}, "", false}, {[]api.Sector{sealed(5, 0, 3, "lag\x00\x00\x00\x00")}, "", false}, {[]api.Sector{sealed(5, 0, 3, "log\x00\x00\x00\x01")}, "", false},
		{[]api.Sector{head(5, 0), sealed(5, 1, 3, rep("a", 101))}, "", true},
	} {
		d := fresh(t, 8, x.l...)
		r, g, ok := Records(d, 0)
		if ok != x.ok || texts(r) != x.want || ok != (g > 0) {
			t.Error(i, texts(r), g, ok)
		}
		after, l, s, e := Open(d)
		if !ok && (e != api.ErrDamage || l != (api.Log{}) || len(s) > 0 || !reflect.DeepEqual(after, d)) || ok && g < 1<<40 && (e != api.OK || texts(s) != x.want || l.Half != 1 || l.Gen != g+1) {
			t.Error(i, l, texts(s), e)
		}
	}
}

// The greater generation counts, and the first half where both are the same.
func TestWhichHalf(t *testing.T) {
	for i, x := range []struct {
		a, b uint64
		want string
		half int
	}{{3, 4, "b", 0}, {4, 3, "a", 1}, {4, 4, "a", 1}} {
		d := fresh(t, 8, head(x.a, 1), sealed(x.a, 1, 3, "a"), sealed(9, 77, 0, ""), api.Sector{}, head(x.b, 1), sealed(x.b, 1, 3, "b"))
		_, l, r, e := Open(d)
		if e != api.OK || texts(r) != x.want || l != (api.Log{Half: x.half, Gen: 10, Used: 2}) {
			t.Error(i, l, texts(r), e)
		}
	}
	odd := fresh(t, 9, head(3, 0))
	odd.Sectors[8] = sealed(20, 1<<32-1, 0, "")
	if _, l, _, e := Open(odd); e != api.OK || l.Gen != 21 {
		t.Error(l, e)
	}
	most := fresh(t, 8, head(3, 0))
	most.Sectors[7] = sealed(1<<40, 0, 0, "")
	log := api.Log{Half: 0, Gen: 3, Used: 1}
	d1, l1, e1 := Format(most)
	d2, l2, r2, e2 := Open(most)
	d3, l3, e3 := Compact(most, log, nil)
	if e1 != api.ErrRange || e2 != api.ErrRange || e3 != api.ErrRange || l1 != (api.Log{}) || l2 != (api.Log{}) || len(r2) > 0 || l3 != log || !reflect.DeepEqual([]api.Disk{d1, d2, d3}, []api.Disk{most, most, most}) {
		t.Error(e1, e2, e3)
	}
}

func TestErrors(t *testing.T) {
	good := api.Log{Half: 0, Gen: 1, Used: 1}
	down := fresh(t, 8)
	down.Down = true
	for i, x := range []struct {
		d    api.Disk
		want api.Errno
	}{{fresh(t, 7), api.ErrArg}, {api.Disk{}, api.ErrArg}, {api.Disk{Sectors: make([]api.Sector, 8), Loose: []api.Write{{At: 8}}, Down: true}, api.ErrArg}, {down, api.ErrDown}} {
		bad := api.Log{Half: 5}
		d1, l1, e1 := Format(x.d)
		d2, l2, r2, e2 := Open(x.d)
		d3, l3, e3 := Append(x.d, bad, nil)
		d4, l4, e4 := Compact(x.d, bad, nil)
		_, _, ok := Records(x.d, 0)
		if e1 != x.want || e2 != x.want || e3 != x.want || e4 != x.want || ok || l1 != (api.Log{}) || l2 != (api.Log{}) || len(r2) > 0 || l3 != bad || l4 != bad || !reflect.DeepEqual([]api.Disk{d1, d2, d3, d4}, []api.Disk{x.d, x.d, x.d, x.d}) {
			t.Error(i, e1, e2, e3, e4)
		}
	}
	d := fresh(t, 8)
	long := make([]byte, 4097)
	for i, x := range []struct {
		l      api.Log
		record []byte
		want   api.Errno
	}{
		{api.Log{Half: -1, Gen: 1, Used: 1}, nil, api.ErrArg}, {api.Log{Half: 2, Gen: 1, Used: 1}, nil, api.ErrArg}, {api.Log{Gen: 0, Used: 1}, nil, api.ErrArg}, {api.Log{Gen: 1<<40 + 1, Used: 1}, nil, api.ErrArg}, {api.Log{Gen: 1, Used: 0}, nil, api.ErrArg}, {api.Log{Gen: 1, Used: 5}, long, api.ErrArg},
		{api.Log{Gen: 1, Used: 4}, long, api.ErrLong}, {api.Log{Gen: 1, Used: 4}, nil, api.ErrFull}, {good, make([]byte, 301), api.ErrFull}, {good, make([]byte, 300), api.OK}, {api.Log{Half: 1, Gen: 1 << 40, Used: 3}, []byte("x"), api.OK},
	} {
		after, l, e := Append(d, x.l, x.record)
		if e != x.want || e != api.OK && (l != x.l || !reflect.DeepEqual(after, d)) {
			t.Error(i, l, e)
		}
		if x.want == api.ErrFull || x.want == api.OK {
			continue
		}
		if after, l, e := Compact(d, x.l, [][]byte{x.record}); e != x.want || l != x.l || !reflect.DeepEqual(after, d) {
			t.Error(i, l, e)
		}
	}
	four := [][]byte{nil, nil, nil, nil}
	if _, l, e := Compact(d, good, four); e != api.ErrFull || l != good {
		t.Error(e)
	}
	if _, _, e := Compact(d, good, append(four, long)); e != api.ErrLong {
		t.Error(e)
	}
	if _, l, e := Compact(d, good, four[:3]); e != api.OK || l.Used != 4 {
		t.Error(l, e)
	}
	wide, most := fresh(t, 84), long[:4096]
	if after, l, e := Append(wide, good, most); e != api.OK || l.Used != 42 || len(after.Loose) > 0 {
		t.Error(l, e)
	}
	if _, l, e := Compact(wide, good, [][]byte{most}); e != api.OK || l.Used != 42 {
		t.Error(l, e)
	}
	for _, h := range []int{-1, 2, math.MinInt} {
		if r, g, ok := Records(fresh(t, 8, head(1, 0)), h); ok || g != 0 || len(r) > 0 {
			t.Error(h)
		}
	}
	full := fresh(t, 8)
	full.Loose = make([]api.Write, 4095)
	if after, l, e := Append(full, good, make([]byte, 150)); e != api.ErrFull || l != good || !reflect.DeepEqual(after, full) {
		t.Error(e)
	}
}

// Each call takes so many operations, and stops where the fuse says.
func TestFuses(t *testing.T) {
	d, l, _ := Format(fresh(t, 16))
	d, l, _ = Append(d, l, make([]byte, 150))
	for fuse := range 9 {
		armed := disk.Arm(d, fuse)
		f, fl, fe := Format(armed)
		o, ol, or, oe := Open(armed)
		a, al, ae := Append(armed, l, make([]byte, 150))
		c, cl, ce := Compact(armed, l, [][]byte{{1}, {2}})
		for i, x := range []struct {
			d     api.Disk
			l     api.Log
			e     api.Errno
			needs int
			was   api.Log
		}{{f, fl, fe, 3, api.Log{}}, {o, ol, oe, 5, api.Log{}}, {a, al, ae, 3, l}, {c, cl, ce, 5, l}} {
			if fuse >= x.needs {
				if x.e != api.OK || x.d.Down || x.d.Fuse != fuse-x.needs {
					t.Error(fuse, i, x.e, x.d.Fuse)
				}
			} else if x.e != api.ErrDown || !x.d.Down || x.l != x.was {
				t.Error(fuse, i, x.e, x.l)
			}
		}
		if oe != api.OK && len(or) > 0 {
			t.Error("records beside an error")
		}
	}
}

// P15.2 and P15.3: wherever the power goes, what was told is there, and perhaps what was under way; opened again, it is the same.
func TestLasting(t *testing.T) {
	rnd := rand.New(rand.NewSource(15))
	for round := range 400 {
		d, l, e := Format(fresh(t, 12+rnd.Intn(20)))
		if e != api.OK {
			t.Fatal(e)
		}
		var told [][]byte
		for range 12 {
			record := bytes.Repeat([]byte(strconv.Itoa(rnd.Intn(1000))), rnd.Intn(60))
			d = disk.Arm(d, rnd.Intn(12)-2)
			maybe := append(told[:len(told):len(told)], record)
			if rnd.Intn(3) == 0 {
				maybe = [][]byte{record}
				d, l, e = Compact(d, l, maybe)
			} else {
				d, l, e = Append(d, l, record)
			}
			if e == api.OK {
				told = maybe
				continue
			}
			if e != api.ErrDown {
				continue
			}
			fates := []api.Fate{{Kind: uint8(rnd.Intn(3)), Cut: uint8(rnd.Intn(128))}, {Kind: uint8(rnd.Intn(3)), Cut: uint8(rnd.Intn(128))}}
			var records [][]byte
			for fuse := rnd.Intn(5); ; fuse += 5 { // the opening may lose its power, too
				d, _ = disk.Fall(d, fates, fuse)
				if d, l, records, e = Open(d); e != api.ErrDown {
					break
				}
			}
			if s := texts(records); e != api.OK || s != texts(told) && s != texts(maybe) {
				t.Fatal(round, e, len(records), len(told))
			}
			told = records
			d = disk.Arm(d, -1)
			var again [][]byte
			if d, l, again, e = Open(d); e != api.OK || texts(again) != texts(told) {
				t.Fatal(round, e)
			}
		}
	}
}
