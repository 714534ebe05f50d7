package graph

import (
	"math/rand"
	"reflect"
	"slices"
	"strconv"
	"testing"

	"vouchsafe/api"
	"vouchsafe/edsig"
	"vouchsafe/event"
)

func signer() api.Signer {
	return api.Signer{Server: "h", Key: "ed25519:0", Seed: edsig.Seed("h")}
}

// make1 builds an event that follows and leans on others, as deep as told.
func make1(t testing.TB, room string, time, depth int, prev, auth []api.Event) api.Event {
	t.Helper()
	e := api.Event{Room: room, Sender: "@a:h", Type: "t", Content: api.Value{Kind: api.Object}, Depth: depth, Time: time}
	for _, p := range prev {
		e.Prev = append(e.Prev, p.ID)
	}
	for _, a := range auth {
		e.Auth = append(e.Auth, a.ID)
	}
	b, fault := event.Build(e, signer())
	if fault != api.OK {
		t.Fatal(fault)
	}
	return b
}

type events = []api.Event

func names(l ...api.Event) []string {
	var s []string
	for _, e := range l {
		s = append(s, e.ID)
	}
	return s
}

// diamond is a, then b and c behind it, then d behind both.
func diamond(t testing.TB) events {
	a := make1(t, "!r:h", 0, 1, nil, nil)
	b := make1(t, "!r:h", 1, 2, events{a}, events{a})
	c := make1(t, "!r:h", 2, 2, events{a}, nil)
	d := make1(t, "!r:h", 3, 3, events{c, b}, events{b})
	return events{a, b, c, d}
}

func TestDiamond(t *testing.T) {
	g := diamond(t)
	a, b, c, d := g[0], g[1], g[2], g[3]
	if !Right(nil) || !Right(g) || !Right(g[:1]) || !Right(events{a, c, b, d}) {
		t.Error("right")
	}
	for i, l := range []events{{b}, {a, d}, {a, b, d}, {a, a}, {a, b, b}, {d, c, b, a}, {{}}, {a, {}}} {
		if Right(l) {
			t.Error(i)
		}
		w, e := Add(l, c)
		f, ok := Find(l, a.ID)
		if len(w) > 0 || e != api.ErrArg || ok || !reflect.DeepEqual(f, api.Event{}) || len(Heads(l)) > 0 || len(Ancestors(l, d.ID)) > 0 || len(Chain(l, d.ID)) > 0 || Depth(l, a.ID) != 0 {
			t.Error(i, e)
		}
	}
	for i, x := range []struct{ got, want []string }{
		{Heads(nil), nil}, {Heads(g[:1]), names(a)}, {Heads(g[:3]), names(b, c)}, {Heads(events{a, c, b}), names(c, b)}, {Heads(g), names(d)},
		{Ancestors(g, d.ID), names(a, b, c)}, {Ancestors(g, c.ID, "none"), names(a)}, {Ancestors(g, c.ID, d.ID), names(a, b, c)}, {Ancestors(g, a.ID), nil}, {Ancestors(g), nil}, {Ancestors(nil, a.ID), nil},
		{Chain(g, d.ID), names(a, b)}, {Chain(g, c.ID), nil}, {Chain(g, b.ID, c.ID), names(a)}, {Chain(g, d.ID, a.ID), names(a, b)},
	} {
		if !slices.Equal(x.got, x.want) {
			t.Error(i, x.got, x.want)
		}
	}
	for i, x := range []struct{ got, want int }{{Depth(g), 1}, {Depth(nil, a.ID), 1}, {Depth(g, "none"), 1}, {Depth(g, a.ID), 2}, {Depth(g, b.ID, a.ID, "none"), 3}, {Depth(g, d.ID), 4}} {
		if x.got != x.want {
			t.Error(i, x.got, x.want)
		}
	}
	if e, ok := Find(g, c.ID); !ok || !reflect.DeepEqual(e, c) {
		t.Error(e)
	}
	if e, ok := Find(g, "none"); ok || !reflect.DeepEqual(e, api.Event{}) {
		t.Error(e)
	}
}

func TestAdd(t *testing.T) {
	g := diamond(t)
	a, b, d := g[0], g[1], g[3]
	stranger := make1(t, "!q:h", 0, 1, nil, nil)
	deep := make1(t, "!r:h", 0, 9, nil, nil)
	broken := d
	broken.ID = a.ID
	for i, x := range []struct {
		g    events
		e    api.Event
		want api.Errno
	}{
		{nil, a, 0}, {g[:3], d, 0}, {g[:1], b, 0},
		{nil, api.Event{}, api.ErrArg}, {g, broken, api.ErrArg}, {g[:1], stranger, api.ErrArg}, {g[:1], make1(t, "!q:h", 0, 2, events{a}, nil), api.ErrArg},
		{g, b, api.ErrTwice}, {g, a, api.ErrTwice}, {g[:2], d, api.ErrMissing}, {nil, d, api.ErrMissing}, {g[:1], make1(t, "!r:h", 5, 9, events{a}, events{b}), api.ErrMissing},
		{nil, deep, api.ErrReject}, {g[:1], deep, api.ErrReject}, {g[:1], make1(t, "!r:h", 5, 1, nil, nil), api.ErrReject}, {g[:1], make1(t, "!r:h", 5, 2, nil, events{a}), api.ErrReject}, {g[:1], make1(t, "!r:h", 5, 1, events{a}, nil), api.ErrReject}, {g[:1], make1(t, "!r:h", 5, 3, events{a}, nil), api.ErrReject}, {g, make1(t, "!r:h", 5, 3, events{d, a}, nil), api.ErrReject}, {g, make1(t, "!r:h", 5, 4, events{a, d}, nil), 0},
	} {
		l, fault := Add(x.g, x.e)
		if fault != x.want {
			t.Error(i, fault)
		}
		switch {
		case fault == api.OK && (!Right(l) || len(l) != len(x.g)+1 || !reflect.DeepEqual(l[len(x.g)], x.e)):
			t.Error(i, "added")
		case fault == api.ErrArg && len(l) > 0 || fault != api.OK && fault != api.ErrArg && !reflect.DeepEqual(l, x.g):
			t.Error(i, "beside an error")
		}
	}
	kept := slices.Clone(g)
	Add(g[:3], make1(t, "!r:h", 77, 2, events{a}, nil))
	if !reflect.DeepEqual(g, kept) {
		t.Error("spare room")
	}
}

func TestFull(t *testing.T) {
	g := diamond(t)[:1]
	for i := range 127 {
		e := make1(t, "!r:h", 100+i, 2+i, g[len(g)-1:], g[:1])
		g = append(g, e)
	}
	more := make1(t, "!r:h", 999, 2, g[:1], nil)
	l, fault := Add(g, more)
	if !Right(g) || fault != api.ErrFull || len(l) != 128 || Right(append(slices.Clone(g), more)) {
		t.Error(fault)
	}
	if _, fault := Add(g, g[5]); fault != api.ErrTwice {
		t.Error(fault)
	}
	if _, fault := Add(g, make1(t, "!r:h", 999, 2, events{{ID: more.ID}}, nil)); fault != api.ErrFull {
		t.Error(fault)
	}
	if d := Depth(g, g[127].ID); d != 129 {
		t.Error(d)
	}
}

// P23.2: no event is its own ancestor; ancestors' ancestors are ancestors; all stand ahead.
func TestOnward(t *testing.T) {
	rnd := rand.New(rand.NewSource(23))
	g := diamond(t)
	for i := range 30 {
		draw := func(n int) events {
			l := slices.Clone(g)
			rnd.Shuffle(len(l), func(a, b int) { l[a], l[b] = l[b], l[a] })
			return l[:n]
		}
		prev := draw(1 + rnd.Intn(3))
		next, fault := Add(g, make1(t, "!r:h", 1000+i, Depth(g, names(prev...)...), prev, draw(rnd.Intn(3))))
		if fault != api.OK {
			t.Fatal(fault)
		}
		g = next
	}
	for i, e := range g {
		above := Ancestors(g, e.ID)
		chain := Chain(g, e.ID)
		if slices.Contains(above, e.ID) || slices.Contains(chain, e.ID) || !slices.IsSortedFunc(above, func(a, b string) int { return place(g, a) - place(g, b) }) {
			t.Fatal(i)
		}
		for _, id := range above {
			if place(g, id) >= i {
				t.Fatal(strconv.Itoa(i), id)
			}
			for _, further := range Ancestors(g, id) {
				if !slices.Contains(above, further) {
					t.Fatal(i)
				}
			}
		}
		for _, id := range e.Prev {
			if !slices.Contains(above, id) {
				t.Fatal(i)
			}
		}
		for _, id := range e.Auth {
			if !slices.Contains(chain, id) || place(g, id) >= i {
				t.Fatal(i)
			}
			for _, further := range Chain(g, id) {
				if !slices.Contains(chain, further) {
					t.Fatal(i)
				}
			}
		}
	}
}

func place(g events, id string) int {
	return slices.IndexFunc(g, func(e api.Event) bool { return e.ID == id })
}
