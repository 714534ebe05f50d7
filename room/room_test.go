package room

import (
	"math/rand"
	"reflect"
	"slices"
	"strconv"
	"strings"
	"testing"

	"vouchsafe/api"
	"vouchsafe/edsig"
	"vouchsafe/event"
	"vouchsafe/graph"
	"vouchsafe/json"
	"vouchsafe/rule"
)

const (
	join  = `{"membership":"join"}`
	ban   = `{"membership":"ban"}`
	leave = `{"membership":"leave"}`
)

func signer() api.Signer {
	return api.Signer{Server: "h", Key: "ed25519:0", Seed: edsig.Seed("h")}
}

// plain is an event's own fields; "-" as key is none.
func plain(t testing.TB, sender, kind, key, content string, time int) api.Event {
	t.Helper()
	v, e := json.Parse(content)
	if e != api.OK {
		t.Fatal(content)
	}
	return api.Event{Room: "!r:h", Sender: sender, Type: kind, State: key != "-", Key: strings.TrimPrefix(key, "-"), Content: v, Time: time}
}

func build(t testing.TB, e api.Event) api.Event {
	t.Helper()
	b, fault := event.Build(e, signer())
	if fault != api.OK {
		t.Fatal(fault)
	}
	return b
}

// say drafts and builds an event, and lets the room receive it.
func say(t testing.TB, r api.Room, sender, kind, key, content string, time int) (api.Room, api.Event, api.Errno) {
	t.Helper()
	e := build(t, Draft(r, plain(t, sender, kind, key, content, time)))
	r, fault := Receive(r, e)
	return r, e, fault
}

func must(t testing.TB) func(api.Room, api.Event, api.Errno) (api.Room, api.Event) {
	return func(r api.Room, e api.Event, fault api.Errno) (api.Room, api.Event) {
		t.Helper()
		if fault != api.OK {
			t.Fatal(e.Sender, e.Type, fault)
		}
		return r, e
	}
}

func take(t testing.TB, r api.Room, e api.Event, want api.Errno) api.Room {
	t.Helper()
	r, fault := Receive(r, e)
	if fault != want {
		t.Fatal(e.Sender, e.Type, fault, want)
	}
	return r
}

func names(l ...api.Event) []string {
	var s []string
	for _, e := range l {
		s = append(s, e.ID)
	}
	return s
}

// begin is a public room of anna (100), bert (50) and carl (0).
func begin(t testing.TB) (api.Room, []api.Event) {
	ok := must(t)
	r, c := ok(say(t, api.Room{}, "@a:h", "m.room.create", "", `{"creator":"@a:h"}`, 1))
	r, a := ok(say(t, r, "@a:h", "m.room.member", "@a:h", join, 2))
	r, p := ok(say(t, r, "@a:h", "m.room.power_levels", "", `{"users":{"@a:h":100,"@b:h":50}}`, 3))
	r, j := ok(say(t, r, "@a:h", "m.room.join_rules", "", `{"join_rule":"public"}`, 4))
	r, b := ok(say(t, r, "@b:h", "m.room.member", "@b:h", join, 5))
	r, k := ok(say(t, r, "@c:h", "m.room.member", "@c:h", join, 6))
	return r, []api.Event{c, a, p, j, b, k}
}

func TestBegin(t *testing.T) {
	r, l := begin(t)
	c, a, p, j, b, k := l[0], l[1], l[2], l[3], l[4], l[5]
	if !slices.Equal(Heads(r), names(k)) || !slices.Equal(names(Current(r)...), names(c, j, a, b, k, p)) {
		t.Error(Heads(r), names(Current(r)...))
	}
	if !slices.Equal(r.States[1], names(c, a)) || !slices.Equal(r.States[3], names(c, j, a, p)) || len(r.States) != 6 || len(r.Soft)+len(r.Rejected) > 0 {
		t.Error(r.States)
	}
	if !slices.Equal(b.Auth, names(c, j, p)) || !slices.Equal(k.Prev, names(b)) || k.Depth != 6 || !slices.Equal(a.Auth, names(c)) || a.Depth != 2 || c.Depth != 1 {
		t.Error("drafted", b.Auth)
	}
	if len(Heads(api.Room{})) > 0 || len(Current(api.Room{})) > 0 {
		t.Error("empty")
	}
	d := Draft(r, api.Event{ID: "i", Hash: "h", Room: "x", Type: "t", Sender: "@z:z", Depth: 9, Prev: names(c), Auth: names(c)})
	if !reflect.DeepEqual(d, api.Event{ID: "i", Hash: "h", Room: "x", Type: "t", Sender: "@z:z", Depth: 7, Prev: names(k), Auth: names(c, p)}) {
		t.Errorf("%+v", d)
	}
}

func TestReceiveErrors(t *testing.T) {
	r, l := begin(t)
	c, a, k := l[0], l[1], l[5]
	wrong := k
	wrong.ID = a.ID
	same := func(name string, e api.Event, want api.Errno) {
		t.Helper()
		after, fault := Receive(r, e)
		if fault != want || !reflect.DeepEqual(after, r) {
			t.Error(name, fault)
		}
	}
	same("not right", wrong, api.ErrArg)
	same("nothing", api.Event{}, api.ErrArg)
	other := Draft(r, plain(t, "@a:h", "m", "-", `{}`, 0))
	other.Room = "!q:h"
	same("another room", build(t, other), api.ErrArg)
	same("twice", a, api.ErrTwice)
	lost := Draft(r, plain(t, "@a:h", "m", "-", `{}`, 0))
	lost.Prev = []string{"$" + strings.Repeat("A", 43)}
	same("missing", build(t, lost), api.ErrMissing)
	rejected := func(name string, change func(*api.Event)) {
		t.Helper()
		e := Draft(r, plain(t, "@a:h", "m", "-", `{"x":"`+name+`"}`, 0))
		change(&e)
		e = build(t, e)
		after, fault := Receive(r, e)
		if fault != api.ErrReject || !reflect.DeepEqual(after.Rejected, names(e)) || !reflect.DeepEqual(after.Events, r.Events) || len(after.Soft) > 0 || len(after.States) != 6 {
			t.Error(name, fault)
		}
		if again, fault := Receive(after, e); fault != api.ErrTwice || !reflect.DeepEqual(again, after) {
			t.Error(name, fault)
		}
		child := build(t, api.Event{Room: "!r:h", Sender: "@a:h", Type: "m", Content: e.Content, Prev: names(e), Depth: e.Depth + 1})
		if _, fault := Receive(after, child); fault != api.ErrMissing {
			t.Error(name, fault)
		}
	}
	rejected("depth", func(e *api.Event) { e.Depth++ })
	rejected("no prev", func(e *api.Event) { e.Prev, e.Depth = nil, 1 })
	rejected("leans on too little", func(e *api.Event) { e.Auth = nil })
	rejected("leans on what it doesn't need", func(e *api.Event) { e.Auth = append(e.Auth, l[4].ID) })
	rejected("a stranger", func(e *api.Event) { e.Sender = "@z:h"; e.Auth = names(c, l[2]) })
	rejected("by another's membership", func(e *api.Event) { e.Sender = "@z:h" })
	rejected("a second creation", func(e *api.Event) { e.Type, e.State, e.Auth = "m.room.create", true, nil })
	after, fault := Receive(api.Room{}, build(t, api.Event{Room: "!r:h", Sender: "@a:h", Type: "m.room.member", State: true, Key: "@a:h", Content: a.Content, Depth: 1}))
	if fault != api.ErrReject || len(after.Events) > 0 || len(after.Rejected) != 1 {
		t.Error(fault)
	}
	note, e, _ := say(t, r, "@a:h", "note", "-", `{}`, 7)
	lean := Draft(note, plain(t, "@a:h", "m", "-", `{}`, 0))
	lean.Auth = append(lean.Auth, e.ID)
	if _, fault := Receive(note, build(t, lean)); fault != api.ErrReject {
		t.Error("leans on what has no State", fault)
	}
	two, _, _ := say(t, r, "@a:h", "m.room.member", "@a:h", join, 8)
	both := Draft(two, plain(t, "@a:h", "m", "-", `{}`, 0))
	both.Auth = append(both.Auth, a.ID)
	if _, fault := Receive(two, build(t, both)); fault != api.ErrReject {
		t.Error("leans on two of a slot", fault)
	}
}

// A ban here, and what the banned one says there: it was allowed then, and fails softly now.
func TestSoft(t *testing.T) {
	r, l := begin(t)
	b := l[4]
	theirs := build(t, Draft(r, plain(t, "@b:h", "m.room.topic", "", `{"topic":"x"}`, 7)))
	mine := build(t, Draft(r, plain(t, "@a:h", "m.room.member", "@b:h", ban, 8)))
	one := take(t, take(t, r, mine, api.OK), theirs, api.ErrSoft)
	if !slices.Equal(one.Soft, names(theirs)) || len(one.Events) != 8 || !slices.Equal(Heads(one), names(mine)) || len(one.Rejected) > 0 {
		t.Error(one.Soft, Heads(one))
	}
	if !slices.Contains(one.States[7], theirs.ID) || !slices.Contains(one.States[7], b.ID) || slices.Contains(one.States[6], theirs.ID) {
		t.Error("the state behind it")
	}
	if at, _ := rule.At(Current(one), api.Slot{Type: "m.room.topic"}); at.ID != "" {
		t.Error("the current state has it")
	}
	if again, fault := Receive(one, theirs); fault != api.ErrTwice || !reflect.DeepEqual(again, one) {
		t.Error(fault)
	}
	other := take(t, take(t, r, theirs, api.OK), mine, api.OK)
	if !slices.Equal(Heads(other), names(theirs, mine)) || len(other.Soft) > 0 {
		t.Error(Heads(other))
	}
	if at, _ := rule.At(Current(other), api.Slot{Type: "m.room.topic"}); at.ID != "" || rule.Membership(Current(other), "@b:h") != "ban" {
		t.Error("the ban counts, the topic doesn't")
	}
	// Who follows what failed softly is judged by the state there, too.
	later := plain(t, "@b:h", "m.room.topic", "", `{"topic":"y"}`, 9)
	later.Prev, later.Auth, later.Depth = names(theirs), theirs.Auth, theirs.Depth+1
	three := take(t, one, build(t, later), api.ErrSoft)
	if !slices.Equal(Heads(three), names(mine)) || len(three.Soft) != 2 {
		t.Error(Heads(three))
	}
	carl := plain(t, "@c:h", "m", "-", `{}`, 9)
	carl.Prev, carl.Auth, carl.Depth = names(theirs), names(l[0], l[5], l[2]), theirs.Depth+1
	four := take(t, one, build(t, carl), api.OK)
	if len(Heads(four)) != 2 {
		t.Error(Heads(four))
	}
}

// By what it leans on it may be, but not by the state behind what it follows.
func TestStateBehind(t *testing.T) {
	r, l := begin(t)
	r, _, _ = say(t, r, "@a:h", "m.room.member", "@c:h", leave, 7)
	e := plain(t, "@c:h", "m", "-", `{}`, 8)
	e.Prev, e.Depth, e.Auth = Heads(r), 8, names(l[0], l[5], l[2])
	after, fault := Receive(r, build(t, e))
	if fault != api.ErrReject || len(after.Rejected) != 1 {
		t.Error(fault)
	}
}

func TestJudge(t *testing.T) {
	r, l := begin(t)
	e := build(t, Draft(r, plain(t, "@b:h", "m.room.topic", "", `{}`, 7)))
	if Judge(Current(r), e) != api.OK || Judge(Current(r)[:1], e) != api.ErrAuth || Judge(nil, e) != api.ErrAuth || Judge(append(Current(r), l[0]), e) != api.ErrArg || Judge(Current(r), api.Event{}) != api.ErrArg || Judge(nil, l[0]) != api.OK || Judge(l[1:2], l[0]) != api.ErrAuth {
		t.Error("judged")
	}
}

// The first eight heads make the current state; twenty heads may be followed.
func TestManyHeads(t *testing.T) {
	r, _ := begin(t)
	base := r
	for i := range 22 {
		e := build(t, Draft(base, plain(t, "@a:h", "m.room.topic", strconv.Itoa(i), `{}`, 10+i)))
		r = take(t, r, e, api.OK)
	}
	heads := Heads(r)
	if len(heads) != 22 || len(Current(r)) != 6+8 {
		t.Error(len(heads), len(Current(r)))
	}
	d := Draft(r, plain(t, "@a:h", "m", "-", `{}`, 50))
	if !slices.Equal(d.Prev, heads[2:]) {
		t.Error(len(d.Prev))
	}
	after := take(t, r, build(t, d), api.OK)
	if len(Heads(after)) != 3 || len(after.States[28]) != 6+8 || !slices.Contains(after.States[28], d.Prev[7]) || slices.Contains(after.States[28], d.Prev[8]) {
		t.Error(len(Heads(after)), len(after.States[28]))
	}
}

// P26.2 and P26.3, at random: rooms of several servers that hear of one another late.
func TestRandom(t *testing.T) {
	rnd := rand.New(rand.NewSource(26))
	for range 8 {
		first, _ := begin(t)
		rooms := []api.Room{first, first, first}
		users := []string{"@a:h", "@b:h", "@c:h", "@d:h"}
		for i := range 25 {
			at := rnd.Intn(3)
			u, v, n := users[rnd.Intn(4)], users[rnd.Intn(4)], strconv.Itoa(rnd.Intn(99))
			kind, key, content := "m.room.topic", "", `{"topic":"`+n+`"}`
			switch rnd.Intn(6) {
			case 0:
				kind, content = "m.room.power_levels", `{"users":{"@a:h":100,"@b:h":`+n+`}}`
			case 1:
				kind, key, content = "m.room.member", v, []string{ban, leave}[rnd.Intn(2)]
			case 2, 3:
				kind, key, content = "m.room.member", u, join
			}
			d := Draft(rooms[at], plain(t, u, kind, key, content, 10+i))
			e := build(t, d)
			before, may := rooms[at], Judge(Current(rooms[at]), e)
			after, fault := Receive(before, e)
			if (may == api.OK) != (fault == api.OK) && fault != api.ErrTwice {
				t.Fatal("drafted", may, fault)
			}
			if fault == api.OK && !slices.Equal(Heads(after), names(e)) {
				t.Fatal("the one head")
			}
			if fault == api.OK {
				rooms[at] = after
			}
			if rnd.Intn(2) == 0 {
				to := rnd.Intn(3)
				for _, e := range rooms[at].Events {
					rooms[to], _ = Receive(rooms[to], e)
				}
			}
		}
		for _, r := range rooms {
			lasting(t, r)
		}
	}
}

// lasting looks at a good room by P26.2.
func lasting(t *testing.T, r api.Room) {
	t.Helper()
	h := enter(r)
	if !graph.Right(r.Events) || len(r.States) != len(r.Events) {
		t.Fatal("no graph")
	}
	for i, e := range r.Events {
		if Judge(h.found(e.Auth), e) != api.OK || Judge(h.behind(e.Prev), e) != api.OK {
			t.Fatal("may not be", i)
		}
		if !slices.Equal(r.States[i], moved(h.behind(e.Prev), e)) {
			t.Fatal("the state behind", i)
		}
	}
	for _, e := range Current(r) {
		if at, ok := graph.Find(r.Events, e.ID); !ok || !reflect.DeepEqual(at, e) {
			t.Fatal("not an event of it")
		}
	}
	if !rule.State(Current(r)) {
		t.Fatal("no state")
	}
}

// Of rooms that aren't good calls end.
func TestNotGood(t *testing.T) {
	r, l := begin(t)
	for _, bad := range []api.Room{{Events: l}, {Events: l[2:], States: r.States}, {Events: l, States: [][]string{{"x"}, nil}}, {States: r.States, Soft: []string{"x"}}, {Events: []api.Event{{}, {}}}} {
		odd, _ := event.Build(Draft(bad, plain(t, "@a:h", "m", "-", `{}`, 7)), signer())
		for _, e := range append(l, build(t, Draft(r, plain(t, "@a:h", "m", "-", `{}`, 7))), odd, api.Event{}) {
			Receive(bad, e)
			Draft(bad, e)
		}
		Heads(bad)
		Current(bad)
	}
}

// Nothing that was handed in is changed, spare room neither.
func TestHandedIn(t *testing.T) {
	r, _ := begin(t)
	r.Soft = append(make([]string, 0, 4), r.Soft...)
	r.Rejected = append(make([]string, 0, 4), r.Rejected...)
	for i, content := range []string{`{"a":1}`, `{"b":1}`} {
		e := build(t, Draft(r, plain(t, "@a:h", "m", "-", content, 7+i)))
		bad := Draft(r, plain(t, "@a:h", "m", "-", content, 7+i))
		bad.Depth++
		take(t, r, e, api.OK)
		take(t, r, build(t, bad), api.ErrReject)
	}
	if r.Rejected[:1][0] != "" || len(r.Events) != 6 || cap(r.Events) > 6 && r.Events[:7][6].ID != "" {
		t.Error("changed")
	}
}

func BenchmarkReceive(b *testing.B) {
	r, _ := begin(b)
	for i := range 100 {
		r, _, _ = say(b, r, "@a:h", "m", "-", `{}`, 10+i)
	}
	e := build(b, Draft(r, plain(b, "@a:h", "m", "-", `{}`, 7)))
	for b.Loop() {
		Receive(r, e)
	}
}
