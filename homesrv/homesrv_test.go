package homesrv

import (
	"fmt"
	"reflect"
	"slices"
	"strconv"
	"strings"
	"testing"

	"vouchsafe/api"
	"vouchsafe/base"
	"vouchsafe/canon"
	"vouchsafe/edsig"
	"vouchsafe/event"
	"vouchsafe/json"
	"vouchsafe/room"
	"vouchsafe/rule"
	"vouchsafe/seal"
)

func home(name string, peers ...string) api.Home {
	h := api.Home{Signer: api.Signer{Server: name, Key: "ed25519:0", Seed: edsig.Seed(name)}, Now: 5}
	for _, p := range peers {
		h.Peers = append(h.Peers, api.Peer{Server: p, Key: "ed25519:0", Public: edsig.Public(edsig.Seed(p))})
	}
	return h
}

func show(v api.Value) string {
	s, _ := canon.Print(v)
	return s
}

func parse(t testing.TB, s string) api.Value {
	t.Helper()
	v, e := json.Parse(s)
	if e != api.OK {
		t.Fatal(s)
	}
	return v
}

// step follows an order that must be told so; beside an error nothing else is told, and all is as it was.
func step(t testing.TB, h api.Home, o api.Order, want api.Errno) (api.Home, api.Result) {
	t.Helper()
	was := fmt.Sprint(h)
	after, r := Step(h, o)
	if r.Code != want {
		t.Fatalf("%+v: %d, not %d", o.Kind, r.Code, want)
	}
	if fmt.Sprint(h) != was {
		t.Fatal("handed in")
	}
	if want != api.OK && (!reflect.DeepEqual(r, api.Result{Code: want}) || o.Kind != api.OrdEvent && !reflect.DeepEqual(after, h)) {
		t.Fatalf("%+v: beside an error", o.Kind)
	}
	for _, e := range r.Events {
		if !Own(h, e.Sender) || event.Verify(e, h.Signer, edsig.Public(h.Signer.Seed)) != api.OK || e.Time != h.Now {
			t.Fatal("not its own")
		}
	}
	return after, r
}

// signed is a block that a house signed.
func signed(t testing.TB, mxid, sender, token, by string) api.Value {
	v := parse(t, `{"mxid":"`+mxid+`","sender":"`+sender+`","token":"`+token+`"}`)
	v, e := seal.Sign(v, "id.org", "ed25519:0", edsig.Seed(by))
	if e != api.OK {
		t.Fatal(e)
	}
	return v
}

func letters(s string) string {
	k := edsig.Public(edsig.Seed(s))
	return base.Encode(k[:])
}

func create(user, name string) api.Order {
	return api.Order{Kind: api.OrdCreate, User: user, Room: name}
}

func TestRight(t *testing.T) {
	many := []string{"a", "b", "c", "d", "e", "f", "g", "i"}
	if !Right(home("h")) || !Right(home("h", many...)) || Right(home("h", append(many, "j")...)) || Right(home("h", "a", "a")) || Right(home("h", "h")) || Right(home("h..x")) || Right(home("h", "")) || Right(api.Home{}) {
		t.Error("right")
	}
	for i, change := range []func(h *api.Home){func(h *api.Home) { h.Now = -1 }, func(h *api.Home) { h.Now = 1<<40 + 1 }, func(h *api.Home) { h.Signer.Key = "0" }, func(h *api.Home) { h.Peers[0].Key = "" }} {
		h := home("h", "a")
		change(&h)
		if Right(h) {
			t.Error(i)
		}
		step(t, h, create("@a:h", "!r:h"), api.ErrArg)
	}
	for _, now := range []int{0, 1 << 40} {
		h := home("h")
		h.Now = now
		if !Right(h) {
			t.Error(now)
		}
	}
	h := home("h:1")
	if !Own(h, "@a:h:1") || Own(h, "@a:h") || Own(h, "!a:h:1") || Own(h, "") || Own(h, "@A:h:1") {
		t.Error("own")
	}
}

func TestCreate(t *testing.T) {
	h := home("h", "g")
	for i, o := range []api.Order{create("@a:g", "!r:h"), create("a", "!r:h"), create("@a:h", "!r:g"), create("@a:h", "@r:h"), create("", ""), {Kind: 0}, {Kind: 8, User: "@a:h", Room: "!r:h"}, {Kind: -1}} {
		_ = i
		step(t, h, o, api.ErrArg)
	}
	h, r := step(t, h, create("@a:h", "!r:h"), 0)
	want := []string{`m.room.create||{"creator":"@a:h"}`, `m.room.member|@a:h|{"membership":"join"}`, `m.room.power_levels||{"users":{"@a:h":100}}`}
	for i, e := range r.Events {
		if e.Type+"|"+e.Key+"|"+show(e.Content) != want[i] || !e.State || e.Room != "!r:h" || e.Sender != "@a:h" || e.Depth != i+1 {
			t.Error(i, e)
		}
	}
	found, ok := Room(h, "!r:h")
	if !ok || len(found.Events) != 3 || len(r.Events) != 3 || !reflect.DeepEqual(found, h.Rooms[0]) {
		t.Error("room")
	}
	if none, ok := Room(h, "!q:h"); ok || !reflect.DeepEqual(none, api.Room{}) {
		t.Error("no room")
	}
	step(t, h, create("@b:h", "!r:h"), api.ErrTwice)
	for i := range 7 {
		h, _ = step(t, h, create("@a:h", "!r"+strconv.Itoa(i)+":h"), 0)
	}
	step(t, h, create("@a:h", "!more:h"), api.ErrFull)
	step(t, h, create("@a:h", "!r:h"), api.ErrTwice)
}

func TestSend(t *testing.T) {
	h, _ := step(t, home("h", "g"), create("@a:h", "!r:h"), 0)
	send := api.Order{Kind: api.OrdSend, User: "@a:h", Room: "!r:h", Type: "m", Content: parse(t, `{"x":1}`)}
	change := func(f func(o *api.Order)) api.Order {
		o := send
		f(&o)
		return o
	}
	after, r := step(t, h, send, 0)
	if len(r.Events) != 1 || r.Events[0].State || show(r.Events[0].Content) != `{"x":1}` || len(after.Rooms[0].Events) != 4 {
		t.Error(r)
	}
	_, r = step(t, h, change(func(o *api.Order) { o.State, o.Key = true, "k" }), 0)
	if !r.Events[0].State || r.Events[0].Key != "k" {
		t.Error(r)
	}
	step(t, h, change(func(o *api.Order) { o.User = "@a:g" }), api.ErrArg)
	step(t, h, change(func(o *api.Order) { o.User, o.Room = "@a:g", "!q:h" }), api.ErrArg)
	step(t, h, change(func(o *api.Order) { o.Room = "!q:h" }), api.ErrNone)
	step(t, h, change(func(o *api.Order) { o.Content = api.Value{} }), api.ErrArg)
	step(t, h, change(func(o *api.Order) { o.Type = "" }), api.ErrArg)
	step(t, h, change(func(o *api.Order) { o.User = "@b:h" }), api.ErrReject)
	step(t, h, change(func(o *api.Order) {
		o.Content = api.Value{Kind: api.Object, Names: []string{"a"}, Items: []api.Value{{Kind: api.Text, Text: strings.Repeat("x", 9000)}}}
	}), api.ErrLong)
	for kind, content := range map[int]string{api.OrdThird: `{"display_name":"B","public_key":"key"}`, api.OrdRevoke: `{}`} {
		_, r := step(t, h, api.Order{Kind: kind, User: "@a:h", Room: "!r:h", Key: "B", Token: "tok", Public: "key", Type: "no", Content: parse(t, `{"no":1}`)}, 0)
		if e := r.Events[0]; len(r.Events) != 1 || e.Type != "m.room.third_party_invite" || e.Key != "tok" || !e.State || show(e.Content) != content {
			t.Error(kind, e)
		}
		step(t, h, api.Order{Kind: kind, User: "@a:g", Room: "!r:h"}, api.ErrArg)
		step(t, h, api.Order{Kind: kind, User: "@a:h", Room: "!q:h", Key: "\xff"}, api.ErrNone)
		step(t, h, api.Order{Kind: kind, User: "@b:h", Room: "!r:h"}, api.ErrReject)
		step(t, h, api.Order{Kind: kind, User: "@a:h", Room: "!r:h", Token: "\xff"}, api.ErrArg)
	}
	step(t, h, api.Order{Kind: api.OrdThird, User: "@a:h", Room: "!r:h", Key: "\xff"}, api.ErrArg)
}

func TestBound(t *testing.T) {
	h := home("h")
	b := signed(t, "@x:h", "@a:g:1", "tok", "id")
	_, r := step(t, h, api.Order{Kind: api.OrdBound, User: "@x:h", Room: "any", Content: b}, 0)
	if r.Trade.Server != "g:1" || r.Trade.Room != "any" || r.Trade.User != "@x:h" || !json.Same(r.Trade.Block, b) || len(r.Events) > 0 {
		t.Errorf("%+v", r)
	}
	step(t, h, api.Order{Kind: api.OrdBound, User: "@x:g", Content: signed(t, "@x:g", "@a:g", "tok", "id")}, api.ErrArg)
	step(t, h, api.Order{Kind: api.OrdBound, User: "x"}, api.ErrArg)
	step(t, h, api.Order{Kind: api.OrdBound, User: "@y:h", Content: b}, api.ErrForm)
	step(t, h, api.Order{Kind: api.OrdBound, User: "@y:h"}, api.ErrForm)
	if !Block(b, "@x:h") || Block(b, "@y:h") || Block(json.Without(b, "token"), "@x:h") || Block(api.Value{}, "") || !Block(seal.Strip(b), "@x:h") {
		t.Error("block")
	}
}

// P27.2: of a token one event is made, and told again and again.
func TestExchange(t *testing.T) {
	h, _ := step(t, home("h", "g"), create("@a:h", "!r:h"), 0)
	h, _ = step(t, h, api.Order{Kind: api.OrdThird, User: "@a:h", Room: "!r:h", Token: "tok", Key: "B", Public: letters("id")}, 0)
	good := api.Order{Kind: api.OrdExchange, User: "@x:g", Room: "!r:h", Content: signed(t, "@x:g", "@a:h", "tok", "id")}
	change := func(f func(o *api.Order)) api.Order {
		o := good
		f(&o)
		return o
	}
	step(t, h, change(func(o *api.Order) { o.User = "@y:g" }), api.ErrForm)
	step(t, h, change(func(o *api.Order) { o.Content, o.Room = api.Value{}, "!q:h" }), api.ErrForm)
	step(t, h, change(func(o *api.Order) { o.Room = "!q:h" }), api.ErrNone)
	step(t, h, change(func(o *api.Order) { o.Content = signed(t, "@x:g", "@a:h", "tik", "id") }), api.ErrNone)
	step(t, h, change(func(o *api.Order) { o.Content = signed(t, "@x:g", "@a:h", "tok", "other") }), api.ErrReject)
	deep := parse(t, strings.Repeat("[", 8)+strings.Repeat("]", 8))
	for n := 9; n < 12; n++ {
		v, e := json.With(seal.Strip(good.Content), "deep", deep)
		v, f := seal.Sign(v, "id.org", "ed25519:0", edsig.Seed("id"))
		if e != api.OK || f != api.OK || json.Deep(v) != n {
			t.Fatal(e, f, json.Deep(v))
		}
		want := api.ErrArg
		if n == 9 {
			want = api.OK
		}
		step(t, h, change(func(o *api.Order) { o.Content = v }), want)
		deep = api.Value{Kind: api.List, Items: []api.Value{deep}}
	}
	after, r := step(t, h, good, 0)
	e := r.Events[0]
	if len(r.Events) != 1 || e.Sender != "@a:h" || e.Key != "@x:g" || e.Type != "m.room.member" || show(e.Content) != `{"membership":"invite","third_party_invite":{"signed":`+show(good.Content)+`}}` || !reflect.DeepEqual(r.Trade, api.Trade{}) {
		t.Error(e)
	}
	if !reflect.DeepEqual(after.Claims, []api.Claim{{Room: "!r:h", Token: "tok", Event: e.ID}}) || rule.Membership(room.Current(after.Rooms[0]), "@x:g") != "invite" {
		t.Error(after.Claims)
	}
	for _, o := range []api.Order{good, change(func(o *api.Order) { o.User, o.Content = "@y:g", signed(t, "@y:g", "@z:z", "tok", "none") })} {
		again, r := step(t, after, o, 0)
		if len(r.Events) != 1 || r.Events[0].ID != e.ID || len(again.Claims) != 1 || len(again.Rooms[0].Events) != len(after.Rooms[0].Events) {
			t.Error("again")
		}
	}
	step(t, after, change(func(o *api.Order) { o.User = "@y:g" }), api.ErrForm)
	// Another token of the room is another claim, and a token of another room, too.
	two, _ := step(t, after, api.Order{Kind: api.OrdThird, User: "@a:h", Room: "!r:h", Token: "tik", Public: letters("id")}, 0)
	two, r = step(t, two, change(func(o *api.Order) { o.User, o.Content = "@y:g", signed(t, "@y:g", "@a:h", "tik", "id") }), 0)
	if r.Events[0].Key != "@y:g" || len(two.Claims) != 2 || two.Claims[1].Token != "tik" {
		t.Error(two.Claims)
	}
	two, _ = step(t, two, create("@a:h", "!q:h"), 0)
	step(t, two, change(func(o *api.Order) { o.Room = "!q:h" }), api.ErrNone)
	// At a homeserver of another one than the inviter's it isn't made.
	g := home("g", "h")
	for _, e := range h.Rooms[0].Events {
		g, _ = step(t, g, api.Order{Kind: api.OrdEvent, Event: e}, 0)
	}
	step(t, g, good, api.ErrArg)
	gone, _ := step(t, h, api.Order{Kind: api.OrdRevoke, User: "@a:h", Room: "!r:h", Token: "tok"}, 0)
	step(t, gone, good, api.ErrReject)
	still, _ := step(t, after, api.Order{Kind: api.OrdRevoke, User: "@a:h", Room: "!r:h", Token: "tok"}, 0)
	if _, r := step(t, still, good, 0); r.Events[0].ID != e.ID {
		t.Error("told again, once it was made")
	}
}

func TestEvents(t *testing.T) {
	h, first := step(t, home("h", "g"), create("@a:h", "!r:h"), 0)
	g := home("g", "h")
	of := func(e api.Event) api.Order { return api.Order{Kind: api.OrdEvent, Event: e} }
	for _, e := range first.Events {
		g, _ = step(t, g, of(e), 0)
	}
	if !reflect.DeepEqual(g.Rooms, h.Rooms) {
		t.Error("the same room")
	}
	same := func(name string, g api.Home, o api.Order, want api.Errno) {
		t.Helper()
		if after, _ := step(t, g, o, want); !reflect.DeepEqual(after, g) {
			t.Error(name)
		}
	}
	same("twice", g, of(first.Events[0]), api.ErrTwice)
	same("its own", h, of(first.Events[0]), api.ErrAuth)
	same("no peer", home("g", "i"), of(first.Events[0]), api.ErrAuth)
	same("no event", g, of(api.Event{}), api.ErrArg)
	same("missing", home("g", "h"), of(first.Events[1]), api.ErrMissing)
	forged := home("g", "h")
	forged.Peers[0].Public = edsig.Public(edsig.Seed("i"))
	same("another key", forged, of(first.Events[0]), api.ErrSign)
	named := home("g", "h")
	named.Peers[0].Key = "ed25519:1"
	same("another key's name", named, of(first.Events[0]), api.ErrSign)
	hurt := first.Events[1]
	hurt.Content = parse(t, `{"membership":"join","x":1}`)
	same("another content", home("g", "h"), of(hurt), api.ErrReject)
	// What may not be is remembered, in a room that is there.
	build := func(e api.Event) api.Event {
		b, fault := event.Build(e, h.Signer)
		if fault != api.OK {
			t.Fatal(fault)
		}
		return b
	}
	bad := build(room.Draft(g.Rooms[0], api.Event{Room: "!r:h", Sender: "@z:h", Type: "m", Content: parse(t, `{}`)}))
	after, _ := step(t, g, of(bad), api.ErrReject)
	if !slices.Equal(after.Rooms[0].Rejected, []string{bad.ID}) || len(after.Rooms[0].Events) != 3 || len(g.Rooms[0].Rejected) > 0 {
		t.Error("rejected")
	}
	lonely := build(api.Event{Room: "!q:h", Sender: "@z:h", Type: "m", Content: parse(t, `{}`), Depth: 1})
	same("a room without events isn't kept", g, of(lonely), api.ErrReject)
	// A ban, and what the banned one said at the same time.
	var l []api.Event
	for _, o := range []api.Order{{Kind: api.OrdSend, User: "@a:h", Room: "!r:h", Type: "m.room.join_rules", State: true, Content: parse(t, `{"join_rule":"public"}`)}, {Kind: api.OrdSend, User: "@b:h", Room: "!r:h", Type: "m.room.member", State: true, Key: "@b:h", Content: parse(t, `{"membership":"join"}`)}} {
		var r api.Result
		h, r = step(t, h, o, 0)
		l = append(l, r.Events...)
	}
	for _, e := range l {
		g, _ = step(t, g, of(e), 0)
	}
	said := build(room.Draft(g.Rooms[0], api.Event{Room: "!r:h", Sender: "@b:h", Type: "m", Content: parse(t, `{}`)}))
	_, ban := step(t, h, api.Order{Kind: api.OrdSend, User: "@a:h", Room: "!r:h", Type: "m.room.member", State: true, Key: "@b:h", Content: parse(t, `{"membership":"ban"}`)}, 0)
	g, _ = step(t, g, of(ban.Events[0]), 0)
	g, _ = step(t, g, of(said), api.ErrSoft)
	if !slices.Equal(g.Rooms[0].Soft, []string{said.ID}) || len(g.Rooms[0].Events) != 7 {
		t.Error("soft")
	}
	full := home("g", "h")
	for i := range 9 {
		_, r := step(t, home("h"), create("@a:h", "!r"+strconv.Itoa(i)+":h"), 0)
		want := api.OK
		if i == 8 {
			want = api.ErrFull
		}
		full, _ = step(t, full, of(r.Events[0]), want)
	}
	if len(full.Rooms) != 8 {
		t.Error(len(full.Rooms))
	}
}

// Of homeservers that aren't good calls end.
func TestNotGood(t *testing.T) {
	h, r := step(t, home("h", "g"), create("@a:h", "!r:h"), 0)
	h.Rooms = append(h.Rooms, api.Room{}, api.Room{Events: make([]api.Event, 2)}, api.Room{Events: r.Events[1:]})
	h.Rooms[0].States = nil
	h.Claims = []api.Claim{{Room: "!r:h", Token: "tok", Event: "none"}}
	if _, ok := Room(h, "!none:h"); ok {
		t.Error("a room")
	}
	for kind := range 9 {
		Step(h, api.Order{Kind: kind, User: "@a:h", Room: "!r:h", Type: "m", Content: signed(t, "@a:h", "@a:h", "tok", "id"), Event: r.Events[0]})
	}
}
