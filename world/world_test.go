package world

import (
	"crypto/sha256"
	"fmt"
	"math"
	"reflect"
	"testing"

	"vouchsafe/api"
	"vouchsafe/edsig"
	"vouchsafe/json"
	"vouchsafe/room"
	"vouchsafe/rule"
	"vouchsafe/seal"
)

func house() api.House {
	return api.House{Signer: api.Signer{Server: "id.org", Key: "ed25519:0", Seed: edsig.Seed("id")}, Terms: []string{"privacy"}}
}

// play is a world on which acts are done, each of which must be told so.
type play struct {
	t testing.TB
	w api.World
}

func (p *play) do(want api.Errno, a api.Act) api.Told {
	p.t.Helper()
	was := fmt.Sprint(p.w.Net, p.w.Mails, p.w.ID.State, p.w.ID.Log)
	w, told := Do(p.w, a)
	if told.Code != want {
		p.t.Fatalf("act %d: %d, not %d", a.Kind, told.Code, want)
	}
	if fmt.Sprint(p.w.Net, p.w.Mails, p.w.ID.State, p.w.ID.Log) != was {
		p.t.Fatal("handed in")
	}
	p.w = w
	return told
}

// same does an act beside whose error all is as it was.
func (p *play) same(want api.Errno, a api.Act) {
	p.t.Helper()
	was := p.w
	if told := p.do(want, a); told.Text != "" || !reflect.DeepEqual(p.w, was) {
		p.t.Fatalf("act %d: something changed", a.Kind)
	}
}

func (p *play) ask(want api.Errno, a api.Ask) string {
	p.t.Helper()
	return p.do(want, api.Act{Kind: api.ActAsk, Ask: a}).Text
}

func (p *play) order(want api.Errno, n int, o api.Order) {
	p.t.Helper()
	p.do(want, api.Act{Kind: api.ActOrder, N: n, Order: o})
}

// deliver delivers all letters, in order, whatever is told.
func (p *play) deliver() {
	for len(p.w.Net) > 0 {
		p.w, _ = Do(p.w, api.Act{Kind: api.ActDeliver})
	}
}

func (p *play) membership(n int, user string) string {
	p.t.Helper()
	for _, r := range p.w.Homes[n].Rooms {
		if r.Events[0].Room == "!r:s0" {
			return rule.Membership(room.Current(r), user)
		}
	}
	return "no room"
}

func words(s string) api.Value { return api.Value{Kind: api.Text, Text: s} }

// begin is the world of the ten examples.
func begin(t testing.TB) *play {
	w, e := New(house(), 300, 2)
	if e != api.OK {
		t.Fatal(e)
	}
	p := &play{t, w}
	for _, u := range []string{"a:s0", "b:s1"} {
		p.ask(0, api.Ask{Kind: api.AskRegister, Draws: []string{"t" + u[:1]}, Mxid: "@" + u})
		p.ask(0, api.Ask{Kind: api.AskAgree, Token: "t" + u[:1], Docs: []string{"privacy"}})
	}
	p.order(0, 0, api.Order{Kind: api.OrdCreate, User: "@a:s0", Room: "!r:s0"})
	p.deliver()
	if Fold(p.w) == sha256.Sum256(nil) || len(p.w.Homes[1].Rooms) != 1 {
		t.Fatal("the room")
	}
	return p
}

func invite() api.Act {
	return api.Act{Kind: api.ActInvite, Ask: api.Ask{Token: "ta", Medium: "email", Where: "B@b.c", Draws: []string{"tok", "seed"}}, Order: api.Order{User: "@a:s0", Room: "!r:s0"}}
}

func bind() api.Ask {
	return api.Ask{Kind: api.AskBind, Token: "tb", Mxid: "@b:s1", ID: 1, Secret: "s"}
}

// shown is the world behind the third example.
func shown(t testing.TB) *play {
	p := begin(t)
	if told := p.do(0, invite()); told.Text != "tok" || len(p.w.Net) != 1 || p.w.Net[0].To != "s1" || p.w.Net[0].Kind != api.LetEvent || p.w.Net[0].Event.Key != "tok" {
		t.Fatal("example 1", told, p.w.Net)
	}
	p.do(0, api.Act{Kind: api.ActDeliver})
	request := api.Ask{Kind: api.AskRequest, Token: "tb", Secret: "s", Medium: "email", Where: "b@b.c", ID: 1, Attempt: 1, Draws: []string{"k"}}
	if text := p.ask(0, request); text != "1" || len(p.w.Mails) != 1 || p.w.Mails[0] != (api.Mail{Who: api.Address{Medium: "email", Where: "b@b.c"}, ID: 1, Token: "k"}) {
		t.Fatal("example 2", text, p.w.Mails)
	}
	if p.ask(0, request); len(p.w.Mails) != 1 {
		t.Fatal("no mail without a token", p.w.Mails)
	}
	return p
}

func submit(code string) api.Ask {
	return api.Ask{Kind: api.AskSubmit, ID: 1, Secret: "s", Code: code}
}

func TestExamples(t *testing.T) {
	p := shown(t)
	wrong := *p
	for range 3 {
		wrong.ask(api.ErrToken, submit("x"))
	}
	wrong.ask(api.ErrMany, submit("k"))
	p.ask(0, submit("k"))
	stranger := bind()
	stranger.Token = "ta"
	p.ask(api.ErrAuth, stranger)
	unbound := *p
	p.ask(0, bind())
	if len(p.w.Net) != 1 || p.w.Net[0].To != "s1" || p.w.Net[0].Kind != api.LetBound || p.w.Net[0].Room != "!r:s0" || p.w.Net[0].User != "@b:s1" || !reflect.DeepEqual(p.w.Net[0].Event, api.Event{}) {
		t.Fatal("example 4", p.w.Net)
	}
	bound := *p
	p.do(0, api.Act{Kind: api.ActDeliver})
	if len(p.w.Net) != 1 || p.w.Net[0].To != "s0" || p.w.Net[0].Kind != api.LetExchange || p.w.Net[0].Room != "!r:s0" || p.w.Net[0].User != "@b:s1" {
		t.Fatal("example 5", p.w.Net)
	}
	revoked := *p
	p.do(0, api.Act{Kind: api.ActCopy, N: 4})
	if len(p.w.Net) != 2 || !reflect.DeepEqual(p.w.Net[0], p.w.Net[1]) {
		t.Fatal("copied")
	}
	p.do(0, api.Act{Kind: api.ActDeliver})
	p.do(0, api.Act{Kind: api.ActDeliver, N: 1})
	for n := range 2 {
		if m := p.membership(n, "@b:s1"); m != "invite" {
			t.Fatal("example 5", n, m)
		}
	}
	before := Fold(p.w)
	p.do(0, api.Act{Kind: api.ActDeliver})
	if len(p.w.Net) != 1 || p.w.Net[0].Kind != api.LetEvent || Fold(p.w) != before {
		t.Fatal("example 6", p.w.Net)
	}
	p.do(api.ErrTwice, api.Act{Kind: api.ActDeliver})
	if told := p.do(0, invite()); told.Text != "" || len(p.w.ID.State.Pledges) != 1 || p.membership(0, "@b:s1") != "invite" || len(p.w.Net) != 1 || p.w.Net[0].Event.Key != "@b:s1" {
		t.Fatal("example 7", told)
	}
	revoked.order(0, 0, api.Order{Kind: api.OrdRevoke, User: "@a:s0", Room: "!r:s0", Token: "tok"})
	revoked.do(api.ErrReject, api.Act{Kind: api.ActDeliver})
	if revoked.membership(0, "@b:s1") != "" {
		t.Fatal("example 8")
	}
	known := bound.w.ID.State
	bound.do(0, api.Act{Kind: api.ActCrash, M: -1})
	if !reflect.DeepEqual(bound.w.ID.State, known) {
		t.Fatal("example 9")
	}
	for fuse := range 3 {
		for kind := range uint8(3) {
			q := unbound
			q.do(0, api.Act{Kind: api.ActArm, N: fuse})
			told := q.w
			told, answer := Do(told, api.Act{Kind: api.ActAsk, Ask: bind()})
			q.w = told
			if want := map[bool]api.Errno{true: api.ErrDown, false: api.OK}[fuse < 2]; answer.Code != want {
				t.Fatal("fuse", fuse, answer)
			}
			q.do(0, api.Act{Kind: api.ActCrash, M: -7, Fates: []api.Fate{{Kind: kind, Cut: 60}}})
			s := q.w.ID.State
			if !reflect.DeepEqual(s.Pledges, unbound.w.ID.State.Pledges) && !reflect.DeepEqual(s.Pledges, known.Pledges) || (len(s.Bonds) == 1) != (s.Pledges[0].Bound != "") || answer.Code == api.OK && len(s.Bonds) != 1 {
				t.Fatal("example 9, under way", fuse, kind, s)
			}
		}
	}
}

func TestForged(t *testing.T) {
	p := shown(t)
	v, _ := json.Make(api.Pair{Name: "mxid", Value: words("@b:s1")}, api.Pair{Name: "sender", Value: words("@a:s0")}, api.Pair{Name: "token", Value: words("tok")})
	signed := func(v api.Value, seed string) api.Letter {
		v, e := seal.Sign(v, "id.org", "ed25519:0", edsig.Seed(seed))
		if e != api.OK {
			t.Fatal(e)
		}
		return api.Letter{To: "s0", Kind: api.LetExchange, Room: "!r:s0", User: "@b:s1", Block: v}
	}
	other, _ := json.With(v, "token", words("tik"))
	bad := signed(v, "id")
	bad.Kind = 4
	for i, x := range []struct {
		l    api.Letter
		want api.Errno
	}{{signed(v, "other"), api.ErrReject}, {signed(other, "id"), api.ErrNone}, {bad, api.ErrArg}, {api.Letter{To: "s9", Kind: 1}, api.ErrNone}, {api.Letter{To: "s9", Kind: 9}, api.ErrNone}, {api.Letter{To: "s1", Kind: api.LetEvent}, api.ErrArg}, {api.Letter{To: "s1", Kind: api.LetBound, User: "@b:s1"}, api.ErrForm}} {
		was := Fold(p.w)
		p.do(0, api.Act{Kind: api.ActForge, Letter: x.l})
		p.do(x.want, api.Act{Kind: api.ActDeliver})
		if len(p.w.Net) > 0 || Fold(p.w) != was {
			t.Error(i)
		}
	}
}

func TestNew(t *testing.T) {
	for _, n := range []int{0, 4, -1, math.MaxInt} {
		if w, e := New(house(), 300, n); e != api.ErrArg || !reflect.DeepEqual(w, api.World{}) {
			t.Error(n, e)
		}
	}
	h := house()
	for i, x := range []struct {
		server         string
		sectors, homes int
		want           api.Errno
	}{{"s0", 300, 1, api.ErrArg}, {"s2", 300, 3, api.ErrArg}, {"s2", 300, 2, 0}, {"s3", 8, 3, 0}, {"s1", 300, 1, 0}, {"id", 7, 1, api.ErrArg}, {"", 300, 1, api.ErrArg}} {
		h.Signer.Server = x.server
		w, e := New(h, x.sectors, x.homes)
		if e != x.want || e == api.OK && len(w.Homes) != x.homes {
			t.Error(i, e)
		}
	}
	w, _ := New(house(), 300, 3)
	for n, h := range w.Homes {
		if h.Signer != (api.Signer{Server: name(n), Key: "ed25519:0", Seed: edsig.Seed(name(n))}) || len(h.Peers) != 2 || h.Peers[0].Server == name(n) || h.Peers[0].Server > h.Peers[1].Server || h.Peers[0].Public != edsig.Public(edsig.Seed(h.Peers[0].Server)) || h.Peers[1].Key != "ed25519:0" {
			t.Error(n, h.Peers)
		}
	}
	for n, want := range map[int]string{0: "s0", 2: "s2", 3: "s0", math.MaxInt: "s1"} {
		if h, ok := Home(w, n); !ok || h.Signer.Server != want {
			t.Error(n, h.Signer.Server)
		}
	}
	for _, x := range []api.World{w, {}} {
		if h, ok := Home(x, -1); ok || !reflect.DeepEqual(h, api.Home{}) {
			t.Error("none")
		}
	}
	if _, ok := Home(api.World{}, 0); ok || Fold(w) != sha256.Sum256(nil) {
		t.Error("none")
	}
}

func TestErrors(t *testing.T) {
	p := shown(t)
	for _, a := range []api.Act{
		{}, {Kind: 12}, {Kind: -1}, {Kind: api.ActOrder, N: -1, Order: api.Order{Kind: 1}}, {Kind: api.ActOrder, Order: api.Order{Kind: 0}}, {Kind: api.ActOrder, Order: api.Order{Kind: api.OrdBound, User: "@a:s0"}}, {Kind: api.ActOrder, Order: api.Order{Kind: api.OrdCreate, User: "@b:s1", Room: "!q:s0"}},
		{Kind: api.ActDeliver, N: -1}, {Kind: api.ActCopy, N: -1}, {Kind: api.ActLose, N: -1}, {Kind: api.ActTick, N: -1}, {Kind: api.ActTick, N: 1<<40 + 1}, {Kind: api.ActSync, N: 0, M: 2, Order: api.Order{Room: "!r:s0"}}, {Kind: api.ActSync, N: -1, M: 0}, {Kind: api.ActSync, N: 0, M: -1},
	} {
		p.same(api.ErrArg, a)
	}
	for _, a := range []api.Act{{Kind: api.ActDeliver}, {Kind: api.ActCopy, N: 3}, {Kind: api.ActLose}, {Kind: api.ActSync, N: 0, M: 1, Order: api.Order{Room: "!q:s0"}}, {Kind: api.ActOrder, Order: api.Order{Kind: api.OrdSend, User: "@a:s0", Room: "!q:s0"}}} {
		p.same(api.ErrNone, a)
	}
	change := func(f func(a *api.Act)) api.Act {
		a := invite()
		f(&a)
		return a
	}
	p.same(api.ErrArg, change(func(a *api.Act) { a.N = -1 }))
	p.same(api.ErrArg, change(func(a *api.Act) { a.N = 1 }))
	p.same(api.ErrArg, change(func(a *api.Act) { a.Order.User = "@a:s1" }))
	p.same(api.ErrArg, change(func(a *api.Act) { a.Ask.Medium = "post" }))
	p.same(api.ErrForm, change(func(a *api.Act) { a.Ask.Where, a.Ask.Token = "b", "none" }))
	p.same(api.ErrAuth, change(func(a *api.Act) { a.Ask.Token = "none" }))
	p.same(api.ErrTwice, invite())
	p.same(api.ErrArg, change(func(a *api.Act) { a.Ask.Draws = nil }))
	stored := change(func(a *api.Act) { a.Order.Room, a.Ask.Draws = "!q:s0", []string{"tok2", "seed2"} })
	if told := p.do(api.ErrNone, stored); told.Text != "tok2" || len(p.w.ID.State.Pledges) != 2 || len(p.w.Net) > 0 {
		t.Error("what was done stays", told)
	}
	// One's own address, once it is bound, can't be invited.
	p.ask(0, submit("k"))
	p.ask(0, bind())
	p.do(0, api.Act{Kind: api.ActLose})
	p.do(api.ErrTwice, api.Act{Kind: api.ActInvite, N: 1, Ask: api.Ask{Token: "tb", Medium: "email", Where: "b@b.c", Draws: []string{"tok3", "seed3"}}, Order: api.Order{User: "@b:s1", Room: "!r:s0"}})
	p.do(api.ErrReject, api.Act{Kind: api.ActInvite, N: 1, Ask: api.Ask{Token: "tb", Medium: "email", Where: "z@b.c", Draws: []string{"tok4", "seed4"}}, Order: api.Order{User: "@b:s1", Room: "!r:s0"}})
}

func TestTickAndPower(t *testing.T) {
	p := begin(t)
	p.do(0, api.Act{Kind: api.ActTick, N: 7})
	if p.w.ID.State.Now != 7 || p.w.Homes[0].Now != 7 || p.w.Homes[1].Now != 7 {
		t.Error("now")
	}
	p.order(0, 0, api.Order{Kind: api.OrdSend, User: "@a:s0", Room: "!r:s0", Type: "m", Content: api.Value{Kind: api.Object}})
	if p.w.Net[0].Event.Time != 7 {
		t.Error("time")
	}
	p.do(0, api.Act{Kind: api.ActArm, N: 0})
	p.do(api.ErrDown, api.Act{Kind: api.ActTick, N: 7})
	p.do(api.ErrDown, api.Act{Kind: api.ActTick, N: 7})
	if p.w.ID.State.Now != 7 || p.w.Homes[0].Now != 7 || !p.w.ID.Down {
		t.Error("nothing else is done")
	}
	p.do(api.ErrDown, invite())
	p.do(api.ErrDown, api.Act{Kind: api.ActCrash, M: 1})
	p.do(api.ErrDown, api.Act{Kind: api.ActTick})
	p.do(0, api.Act{Kind: api.ActCrash, M: -1})
	p.do(0, api.Act{Kind: api.ActTick, N: 1 << 40})
	if p.w.ID.State.Now != 1<<40 || p.w.Homes[1].Now != 1<<40 {
		t.Error("at most")
	}
	p.do(0, api.Act{Kind: api.ActArm, N: math.MinInt})
	if p.w.ID.Disk.Fuse != -1 {
		t.Error(p.w.ID.Disk.Fuse)
	}
}

func TestNet(t *testing.T) {
	p := begin(t)
	for i := range 70 {
		p.do(0, api.Act{Kind: api.ActForge, Letter: api.Letter{To: fmt.Sprint(i)}})
	}
	if len(p.w.Net) != 64 || p.w.Net[63].To != "63" {
		t.Error(len(p.w.Net))
	}
	p.do(0, api.Act{Kind: api.ActCopy})
	p.do(0, api.Act{Kind: api.ActLose, N: 64 + 3})
	p.do(0, api.Act{Kind: api.ActCopy, N: 63})
	if len(p.w.Net) != 64 || p.w.Net[3].To != "4" || p.w.Net[63].To != "0" {
		t.Error(p.w.Net[3].To, p.w.Net[63].To)
	}
	w, told := Run(p.w, []api.Act{{Kind: api.ActLose}, {Kind: 99}, {Kind: api.ActDeliver}})
	if len(told) != 3 || told[1].Code != api.ErrArg || told[2].Code != api.ErrNone || len(w.Net) != 62 {
		t.Error(told)
	}
	if _, none := Run(w, nil); len(none) > 0 {
		t.Error("no acts")
	}
}

func TestSync(t *testing.T) {
	w, _ := New(house(), 300, 3)
	p := &play{t, w}
	p.order(0, 0, api.Order{Kind: api.OrdCreate, User: "@a:s0", Room: "!r:s0"})
	if len(p.w.Net) != 6 || p.w.Net[0].To != "s1" || p.w.Net[1].To != "s2" || p.w.Net[0].Event.ID != p.w.Net[1].Event.ID {
		t.Error("spread, each to all others in order")
	}
	for len(p.w.Net) > 0 {
		p.do(0, api.Act{Kind: api.ActLose})
	}
	// P28.2: an act at one homeserver changes no other one, but by letters.
	if p.membership(1, "@a:s0") == "join" || len(p.w.Homes[1].Rooms)+len(p.w.Homes[2].Rooms) > 0 {
		t.Error("another one changed")
	}
	p.do(0, api.Act{Kind: api.ActSync, N: 1, M: 3, Order: api.Order{Room: "!r:s0"}})
	if p.membership(1, "@a:s0") != "join" || len(p.w.Homes[2].Rooms) > 0 || len(p.w.Net) > 0 {
		t.Error("synced")
	}
	p.do(0, api.Act{Kind: api.ActSync, N: 0, M: 1, Order: api.Order{Room: "!r:s0"}})
	ids := ""
	for _, n := range []int{0, 1} {
		for _, e := range p.w.Homes[n].Rooms[0].Events {
			ids += e.ID
		}
	}
	if Fold(p.w) != sha256.Sum256([]byte(ids)) {
		t.Error("fold")
	}
}

// Of worlds that aren't good calls end.
func TestNotGood(t *testing.T) {
	p := shown(t)
	p.ask(0, submit("k"))
	bad := []api.World{{}, {Homes: make([]api.Home, 2), Net: make([]api.Letter, 1)}, p.w}
	bad[2].House = api.House{}
	bad[2].Homes[0].Rooms[0].States = nil
	for _, w := range bad {
		for kind := range 13 {
			a := invite()
			a.Kind, a.M, a.Order.Kind = kind, 1, 1
			Do(w, a)
			a.Ask = bind()
			Do(w, a)
		}
		Fold(w)
	}
}
