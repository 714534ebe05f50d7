package bond

import (
	"math/rand"
	"reflect"
	"slices"
	"strconv"
	"testing"

	"vouchsafe/api"
)

func mail(s string) api.Address { return api.Address{Medium: "email", Where: s + "@b.c"} }

func bond(where, user string) api.Bond {
	return api.Bond{Who: mail(where), Mxid: "@" + user + ":h", Since: 5}
}

func many(n int) []api.Bond {
	var l []api.Bond
	for i := range n {
		l = append(l, bond("a"+strconv.Itoa(100+i), "u"))
	}
	return l
}

func TestRight(t *testing.T) {
	phone := api.Bond{Who: api.Address{Medium: "msisdn", Where: "123456"}, Mxid: "@a:h", Since: 1 << 40}
	for i, l := range [][]api.Bond{nil, many(64), {bond("a", "a"), phone}, {bond("a", "a"), bond("b", "a")}, {{Who: mail("a"), Mxid: "@a:h"}}} {
		if !Right(l) {
			t.Error(i)
		}
	}
	for i, l := range [][]api.Bond{
		many(65), {phone, bond("a", "a")}, {bond("b", "a"), bond("a", "a")}, {bond("a", "a"), bond("a", "b")}, {bond("A", "a")}, {{Who: mail("a"), Mxid: "a"}}, {{Who: mail("a"), Mxid: "@a:h", Since: -1}}, {{Who: mail("a"), Mxid: "@a:h", Since: 1<<40 + 1}}, {{}},
	} {
		r1, e1 := Bind(l, bond("z", "z"))
		r2, e2 := Unbind(l, l[0])
		f, ok := Find(l, l[0].Who)
		if Right(l) || e1 != api.ErrArg || e2 != api.ErrArg || ok || f != (api.Bond{}) || len(Of(l, l[0].Mxid)) > 0 || !reflect.DeepEqual([][]api.Bond{r1, r2}, [][]api.Bond{l, l}) {
			t.Error(i, e1, e2)
		}
		if len(l) == 1 {
			if r, e := Bind(nil, l[0]); e != api.ErrArg || len(r) > 0 {
				t.Error(i, e)
			}
		}
	}
}

func TestBindAndUnbind(t *testing.T) {
	l := []api.Bond{bond("b", "x"), bond("d", "y")}
	for i, x := range []struct {
		want api.Bond
		at   int
		n    int
	}{{bond("a", "x"), 0, 3}, {bond("c", "x"), 1, 3}, {bond("e", "x"), 2, 3}, {bond("b", "z"), 0, 2}, {bond("d", "y"), 1, 2}} {
		r, e := Bind(l, x.want)
		if e != api.OK || len(r) != x.n || r[x.at] != x.want || !Right(r) {
			t.Error(i, r, e)
		}
		if f, ok := Find(r, x.want.Who); !ok || f != x.want {
			t.Error(i, f)
		}
	}
	if r, e := Bind(many(64), bond("z", "z")); e != api.ErrFull || len(r) != 64 {
		t.Error(e)
	}
	if r, e := Bind(many(64), bond("a100", "z")); e != api.OK || r[0].Mxid != "@z:h" {
		t.Error(e)
	}
	for i, x := range []struct {
		want api.Bond
		e    api.Errno
	}{{bond("a", "x"), api.ErrNone}, {api.Bond{}, api.ErrNone}, {bond("b", "y"), api.ErrAuth}, {api.Bond{Who: mail("b")}, api.ErrAuth}, {api.Bond{Who: mail("b"), Mxid: "@x:h", Since: -7}, api.OK}} {
		r, e := Unbind(l, x.want)
		if e != x.e || e != api.OK && !reflect.DeepEqual(r, l) || e == api.OK && !reflect.DeepEqual(r, l[1:]) {
			t.Error(i, r, e)
		}
	}
	if f, ok := Find(l, mail("c")); ok || f != (api.Bond{}) {
		t.Error(f)
	}
	if l[0] != bond("b", "x") || l[1] != bond("d", "y") {
		t.Error("handed in")
	}
}

// P18.1 and P18.2: an address is whose it was made last, until it is freed; all others stay.
func TestTheLast(t *testing.T) {
	rnd := rand.New(rand.NewSource(18))
	var l []api.Bond
	known := map[api.Address]api.Bond{}
	for now := range 1500 {
		want := bond(strconv.Itoa(rnd.Intn(70)), strconv.Itoa(rnd.Intn(3)))
		want.Since = now
		old, there := known[want.Who]
		var e api.Errno
		if rnd.Intn(3) > 0 {
			l, e = Bind(l, want)
			if (e == api.ErrFull) != (!there && len(known) == 64) {
				t.Fatal(e)
			}
			if e == api.OK {
				known[want.Who] = want
			}
		} else {
			l, e = Unbind(l, want)
			if (e == api.OK) != (there && old.Mxid == want.Mxid) {
				t.Fatal(e)
			}
			if e == api.OK {
				delete(known, want.Who)
			}
		}
		if !Right(l) || len(l) != len(known) {
			t.Fatal(l)
		}
		for who, b := range known {
			if f, ok := Find(l, who); !ok || f != b {
				t.Fatal(who)
			}
		}
	}
	var mine []api.Address
	for _, b := range l {
		if b.Mxid == "@1:h" {
			mine = append(mine, b.Who)
		}
	}
	if !slices.Equal(Of(l, "@1:h"), mine) || len(mine) == 0 || len(Of(l, "@9:h")) > 0 {
		t.Error(mine)
	}
}
