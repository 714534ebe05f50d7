package session

import (
	"math"
	"math/rand"
	"reflect"
	"slices"
	"strconv"
	"strings"
	"testing"

	"vouchsafe/api"
)

func who(s string) api.Address { return api.Address{Medium: "email", Where: s + "@b.c"} }

func one(id int, secret, where, token string) api.Session {
	return api.Session{ID: id, Secret: secret, Who: who(where), Token: token, Attempt: 1}
}

func TestRight(t *testing.T) {
	base := one(1, "s", "a", "k")
	long := strings.Repeat("x", 65)
	for i, change := range []func(s *api.Session){
		func(s *api.Session) { s.ID = 0 }, func(s *api.Session) { s.ID = 1<<40 + 1 }, func(s *api.Session) { s.Secret = "" }, func(s *api.Session) { s.Secret = long }, func(s *api.Session) { s.Secret = "a b" }, func(s *api.Session) { s.Token = "" }, func(s *api.Session) { s.Token = "\x7f" },
		func(s *api.Session) { s.Who.Where = "A@b.c" }, func(s *api.Session) { s.Who = api.Address{} }, func(s *api.Session) { s.Attempt = 0 }, func(s *api.Session) { s.Attempt = 1001 }, func(s *api.Session) { s.Since = -1 }, func(s *api.Session) { s.Since = 1<<40 + 1 },
		func(s *api.Session) { s.Wrong = -1 }, func(s *api.Session) { s.Wrong = 4 }, func(s *api.Session) { s.ShownAt = 1 }, func(s *api.Session) { s.Shown, s.ShownAt = true, -1 }, func(s *api.Session) { s.Shown, s.ShownAt = true, 1<<40+1 },
	} {
		s := base
		change(&s)
		l := []api.Session{s}
		if Right(l) {
			t.Error(i, s)
		}
		_, found := Find(l, s.ID)
		r, id, send, e := Request(l, base)
		m, f := Submit(l, 0, s)
		a, g := Shown(l, 0, s)
		if found || len(Prune(l, 0)) > 0 || e != api.ErrArg || f != api.ErrArg || g != api.ErrArg || id != 0 || send || a != (api.Address{}) || !reflect.DeepEqual([][]api.Session{r, m}, [][]api.Session{l, l}) {
			t.Error(i, e, f, g)
		}
		if r, id, send, e := Request(nil, s); e != api.ErrArg || len(r) > 0 || id != 0 || send {
			t.Error(i, e)
		}
	}
	full := base
	full.ID, full.Secret, full.Token, full.Attempt, full.Since, full.Wrong, full.Shown, full.ShownAt = 1<<40, strings.Repeat("~", 64), "!", 1000, 1<<40, 3, true, 1<<40
	if !Right(nil) || !Right([]api.Session{base, full}) || Right([]api.Session{full, base}) || Right([]api.Session{base, base}) {
		t.Error("lists")
	}
	for i, x := range [][2]api.Session{{one(1, "s", "a", "k"), one(2, "s", "a", "m")}, {one(1, "s", "a", "k"), one(2, "r", "b", "k")}, {one(2, "s", "a", "k"), one(2, "r", "b", "m")}} {
		if Right(x[:]) {
			t.Error(i)
		}
	}
	if !Right([]api.Session{one(1, "s", "a", "k"), one(2, "s", "b", "m"), one(3, "r", "a", "n")}) {
		t.Error("others")
	}
}

func many(n int) []api.Session {
	var l []api.Session
	for i := range n {
		l = append(l, one(10*(i+1), "s"+strconv.Itoa(i), "a", "k"+strconv.Itoa(i)))
	}
	return l
}

func TestBounds(t *testing.T) {
	if !Right(many(16)) || Right(many(17)) {
		t.Error("16")
	}
	l := many(16)
	if r, id, send, e := Request(l, one(5, "s", "z", "k")); e != api.ErrFull || id != 0 || send || !reflect.DeepEqual(r, l) {
		t.Error(e)
	}
	if _, _, _, e := Request(l, one(10, "s", "z", "k")); e != api.ErrTwice {
		t.Error(e)
	}
	for _, now := range []int{-1, 1<<40 + 1, math.MinInt, math.MaxInt} {
		r, e := Submit(l, now, l[0])
		_, f := Shown(l, now, l[0])
		if e != api.ErrArg || f != api.ErrArg || len(Prune(l, now)) > 0 || !reflect.DeepEqual(r, l) {
			t.Error(now, e, f)
		}
	}
	for i, s := range l {
		if found, ok := Find(l, s.ID); !ok || found != l[i] {
			t.Error(found, ok)
		}
	}
	if s, ok := Find(l, 21); ok || s != (api.Session{}) {
		t.Error(s, ok)
	}
}

func TestOver(t *testing.T) {
	a, b := one(1, "s", "a", "k"), one(2, "r", "a", "m")
	a.Since, b.Since, b.Shown = 100, 101, true
	l := []api.Session{a, b}
	for now, n := range map[int]int{0: 2, 86500: 2, 86501: 1, 86502: 0, 1 << 40: 0} {
		if p := Prune(l, now); len(p) != n || n == 1 && p[0] != b {
			t.Error(now, p)
		}
	}
	if _, e := Submit(l, 86501, a); e != api.ErrSession {
		t.Error(e)
	}
	if w, e := Shown(l, 86501, b); e != api.OK || w != b.Who {
		t.Error(e)
	}
	if _, e := Shown(l, 86502, b); e != api.ErrSession {
		t.Error(e)
	}
	want := one(1, "s", "a", "k")
	want.Since = 86501
	r, id, send, e := Request(l, want)
	if e != api.OK || id != 1 || !send || !reflect.DeepEqual(r, []api.Session{want, b}) || l[0] != a {
		t.Error(r, id, send, e)
	}
	twice := one(2, "t", "a", "k")
	twice.Since = 86501
	if r, _, _, e := Request(l, twice); e != api.ErrTwice || !reflect.DeepEqual(r, l) {
		t.Error("beside an error the list is l, those that are over too", r, e)
	}
	again := one(9, "r", "a", "z")
	again.Since = 86501
	if r, id, send, e := Request(l, again); e != api.OK || id != 2 || send || !reflect.DeepEqual(r, []api.Session{b}) {
		t.Error(r, id, send, e)
	}
}

func TestRequest(t *testing.T) {
	l := []api.Session{one(2, "s", "a", "k"), one(5, "r", "a", "m")}
	for i, x := range []struct {
		want api.Session
		at   int
		e    api.Errno
	}{{one(1, "q", "a", "n"), 0, 0}, {one(3, "q", "a", "n"), 1, 0}, {one(9, "s", "b", "n"), 2, 0}, {one(2, "q", "a", "n"), 0, api.ErrTwice}, {one(3, "q", "a", "m"), 0, api.ErrTwice}} {
		r, id, send, e := Request(l, x.want)
		if e != x.e || e == api.OK && (r[x.at] != x.want || id != x.want.ID || !send || len(r) != 3 || !Right(r)) || e != api.OK && (id != 0 || send || !reflect.DeepEqual(r, l)) {
			t.Error(i, r, id, send, e)
		}
	}
	again := one(77, "r", "a", "k")
	for attempt, send := range map[int]bool{1: false, 2: true, 1000: true} {
		again.Attempt = attempt
		r, id, sent, e := Request(l, again)
		if e != api.OK || id != 5 || sent != send || r[1].Attempt != attempt || r[1].Token != "m" || len(r) != 2 || l[1].Attempt != 1 {
			t.Error(r, id, sent, e)
		}
	}
	shown := one(9, "x", "a", "x")
	shown.Shown = true
	wrong := one(9, "x", "a", "x")
	wrong.Wrong = 1
	for _, w := range []api.Session{shown, wrong} {
		if _, _, _, e := Request(l, w); e != api.ErrArg {
			t.Error(e)
		}
	}
	room := append(slices.Clone(l), one(99, "kept", "a", "kept"))
	Request(room[:2], one(1, "q", "a", "n"))
	Request(room[:2], one(9, "q", "a", "n"))
	if room[2].ID != 99 || room[0].ID != 2 {
		t.Error("handed in")
	}
}

// P16.2: a session is shown just by its own token, with its secret, in time, three wrong ones ahead at most.
func TestSubmit(t *testing.T) {
	l := []api.Session{one(1, "s", "a", "k"), one(2, "r", "a", "m")}
	for i, x := range []api.Session{{ID: 1, Secret: "r", Token: "k"}, {ID: 3, Secret: "s", Token: "k"}, {ID: 2, Secret: "s", Token: "m"}, {}} {
		r, e := Submit(l, 0, x)
		_, f := Shown(l, 0, x)
		if e != api.ErrSession || f != api.ErrSession || !reflect.DeepEqual(r, l) {
			t.Error(i, e, f)
		}
	}
	if _, e := Shown(l, 0, l[0]); e != api.ErrAuth {
		t.Error(e)
	}
	wrong := l
	for n := range 5 {
		r, e := Submit(wrong, 7, api.Session{ID: 1, Secret: "s", Token: "x"})
		want, tries := api.ErrToken, n+1
		if n >= 3 {
			want, tries = api.ErrMany, 3
		}
		if e != want || r[0].Wrong != tries || r[0].Shown || r[1] != l[1] || !Right(r) {
			t.Error(n, r, e)
		}
		late, f := Submit(r, 7, l[0])
		if tries == 3 && (f != api.ErrMany || late[0].Shown) || tries < 3 && (f != api.OK || !late[0].Shown || late[0].ShownAt != 7) {
			t.Error(n, f)
		}
		wrong = r
	}
	once, e := Submit(l, 7, l[0])
	twice, f := Submit(once, 9, l[0])
	w, g := Shown(twice, 9, l[0])
	if e != api.OK || f != api.OK || g != api.OK || twice[0].ShownAt != 7 || w != l[0].Who || l[0].Shown {
		t.Error(e, f, g)
	}
	bad, h := Submit(twice, 9, api.Session{ID: 1, Secret: "s"})
	if h != api.ErrToken || !bad[0].Shown || bad[0].Wrong != 1 {
		t.Error(h)
	}
}

// P16.1: lists stay right.
func TestStaysRight(t *testing.T) {
	rnd := rand.New(rand.NewSource(16))
	var l []api.Session
	for now := range 3000 {
		want := one(1+rnd.Intn(20), strconv.Itoa(rnd.Intn(6)), strconv.Itoa(rnd.Intn(4)), strconv.Itoa(rnd.Intn(30)))
		want.Since, want.Attempt = now*1000, 1+rnd.Intn(4)
		if rnd.Intn(2) == 0 {
			l, _, _, _ = Request(l, want)
		} else {
			l, _ = Submit(l, now*1000, want)
		}
		if !Right(l) {
			t.Fatal(l)
		}
	}
}
