package world

import (
	"fmt"
	"math/rand"
	"reflect"
	"slices"
	"strconv"
	"testing"

	"vouchsafe/api"
	"vouchsafe/base"
	"vouchsafe/block"
	"vouchsafe/canon"
	"vouchsafe/edsig"
	"vouchsafe/event"
	"vouchsafe/json"
	"vouchsafe/pledge"
	"vouchsafe/seal"
)

// watch looks at the whole (P2) behind each act: what was seen once must stay so.
type watch struct {
	play
	bound  map[string]string // of each token whom it was bound to
	blocks map[string]string // of each token its block's text
	known  map[string]bool   // events that were looked at already
	made   int               // how many invites with blocks were taken

	checked map[string]bool // of each block's text whether it is vouched for
}

func letters(seed [32]byte) string {
	k := edsig.Public(seed)
	return base.Encode(k[:])
}

func (x *watch) see() {
	x.t.Helper()
	if !x.w.ID.Down {
		now := map[string]string{}
		for _, p := range x.w.ID.State.Pledges {
			now[p.Token] = p.Bound
			if p.Bound != "" && x.bound[p.Token] == "" {
				x.bound[p.Token] = p.Bound
			}
		}
		for token, user := range x.bound {
			if now[token] != user {
				x.t.Fatal("once: forgotten, or another one", token, user, now[token])
			}
		}
	}
	for _, l := range x.w.Net {
		if b, ok := block.Read(l.Block); ok && x.vouched(l.Block) {
			x.one(b, l.Block)
		}
	}
	for _, h := range x.w.Homes {
		for _, r := range h.Rooms {
			for i, e := range r.Events {
				if !x.known[h.Signer.Server+e.ID] {
					x.known[h.Signer.Server+e.ID] = true
					x.event(r, i)
				}
			}
		}
	}
}

// vouched: does the identity server's key verify a block?
func (x *watch) vouched(v api.Value) bool {
	s, _ := canon.Print(v)
	if _, met := x.checked[s]; !met {
		x.checked[s] = pledge.Check(v, x.w.House.Signer, letters(x.w.House.Signer.Seed)) == api.OK
	}
	return x.checked[s]
}

// one looks at a block that is vouched for: it names whom the token is bound to, always in the same bytes.
func (x *watch) one(b block.Block, v api.Value) {
	x.t.Helper()
	if x.bound[b.Token] != b.Mxid {
		x.t.Fatal("a block names another one than was bound", b, x.bound[b.Token])
	}
	s, _ := canon.Print(v)
	if old := x.blocks[b.Token]; old != "" && old != s {
		x.t.Fatal("another block of a token", b)
	}
	x.blocks[b.Token] = s
}

// event looks at one that a homeserver has taken: who signed it, and, where it is an invite with a block, what it leans on.
func (x *watch) event(r api.Room, i int) {
	x.t.Helper()
	e := r.Events[i]
	server := event.Server(e)
	if fault := event.Verify(e, api.Signer{Server: server, Key: "ed25519:0"}, edsig.Public(edsig.Seed(server))); fault != api.OK {
		x.t.Fatal("not signed by its sender's server", fault)
	}
	third, there := json.Get(e.Content, "third_party_invite")
	if m, _ := json.Get(e.Content, "membership"); !there || e.Type != "m.room.member" || m.Text != "invite" {
		return
	}
	v, _ := json.Get(third, "signed")
	mxid, _ := json.Get(v, "mxid")
	token, _ := json.Get(v, "token")
	if mxid.Text != e.Key {
		x.t.Fatal("names another one than is invited")
	}
	at := slices.IndexFunc(r.Events, func(a api.Event) bool {
		return a.Type == "m.room.third_party_invite" && a.Key == token.Text && a.Sender == e.Sender && slices.Contains(e.Auth, a.ID)
	})
	if at < 0 || at >= i {
		x.t.Fatal("leans on no invite of its token")
	}
	key, _ := json.Get(r.Events[at].Content, "public_key")
	b, e2 := base.Decode(key.Text)
	holds := false
	for _, s := range seal.Signers(v) {
		var server, name string
		fmt.Sscan(s, &server, &name)
		holds = holds || e2 == api.OK && seal.Verify(v, server, name, [32]byte(b)) == api.OK
	}
	if !holds {
		x.t.Fatal("the invite's key doesn't verify the block")
	}
	x.made++
	if full, ok := block.Read(v); ok && x.vouched(v) {
		x.one(full, v)
	}
}

func (x *watch) act(a api.Act) api.Told {
	x.t.Helper()
	w, told := Do(x.w, a)
	x.apart(a, w)
	x.w = w
	x.see()
	return told
}

// apart looks at P28.2: an act at one homeserver changes no other one.
func (x *watch) apart(a api.Act, after api.World) {
	x.t.Helper()
	at := -1
	switch a.Kind {
	case api.ActOrder, api.ActInvite, api.ActSync:
		at = a.N % 3
	case api.ActDeliver:
		if n := len(x.w.Net); n > 0 {
			to := x.w.Net[a.N%n].To
			at = slices.IndexFunc(x.w.Homes, func(h api.Home) bool { return h.Signer.Server == to })
		}
	}
	for i, h := range x.w.Homes {
		if i != at && traces(h) != traces(after.Homes[i]) {
			x.t.Fatal("another homeserver changed", a.Kind, i)
		}
	}
}

// traces are what shows whether a homeserver has changed.
func traces(h api.Home) string {
	s := fmt.Sprint(h.Claims, h.Now)
	for _, r := range h.Rooms {
		s += fmt.Sprint(len(r.Events), len(r.States), r.Soft, r.Rejected)
	}
	return s
}

// chance draws an act: of people, of the net, of the power, and of who forges.
func chance(rnd *rand.Rand, i int) api.Act {
	u := rnd.Intn(3)
	user := "@u" + strconv.Itoa(u) + ":s" + strconv.Itoa(u)
	at := rnd.Intn(3)
	token, where := "t"+strconv.Itoa(u), strconv.Itoa(at)+"@b.c"
	n := rnd.Intn(9)
	tok := "tok" + strconv.Itoa(rnd.Intn(24))
	session := 1 + 3*u + at
	ask := func(a api.Ask) api.Act { return api.Act{Kind: api.ActAsk, Ask: a} }
	switch rnd.Intn(18) {
	case 0, 1:
		return api.Act{Kind: api.ActInvite, N: u, Ask: api.Ask{Token: token, Medium: "email", Where: where, Draws: []string{tok, "seed" + strconv.Itoa(i)}}, Order: api.Order{User: user, Room: "!r:s0"}}
	case 2:
		return ask(api.Ask{Kind: api.AskRequest, Token: token, Secret: "s" + token, Medium: "email", Where: where, ID: session, Attempt: 1, Draws: []string{"k" + strconv.Itoa(session)}})
	case 3:
		return ask(api.Ask{Kind: api.AskSubmit, Secret: "s" + token, ID: session, Code: "k" + strconv.Itoa(session)})
	case 4, 5:
		return ask(api.Ask{Kind: api.AskBind, Token: token, Mxid: user, ID: session, Secret: "s" + token})
	case 6:
		return ask(api.Ask{Kind: api.AskUnbind, Token: token, Medium: "email", Where: where})
	case 7:
		return api.Act{Kind: api.ActOrder, N: u, Order: api.Order{Kind: api.OrdRevoke, User: user, Room: "!r:s0", Token: tok}}
	case 8:
		return api.Act{Kind: api.ActOrder, N: u, Order: api.Order{Kind: api.OrdThird, User: user, Room: "!r:s0", Token: tok, Public: letters(edsig.Seed("thief"))}}
	case 9:
		return api.Act{Kind: api.ActForge, Letter: forged(rnd, tok)}
	case 10:
		return api.Act{Kind: []int{api.ActCopy, api.ActLose}[rnd.Intn(2)], N: n}
	case 11:
		return api.Act{Kind: api.ActSync, N: n, M: u, Order: api.Order{Room: "!r:s0"}}
	case 12:
		return api.Act{Kind: api.ActArm, N: rnd.Intn(9) - 2}
	}
	return api.Act{Kind: api.ActDeliver, N: n}
}

// forged is a letter from nobody, of a block that another key signed, or nobody did.
func forged(rnd *rand.Rand, tok string) api.Letter {
	u, n := strconv.Itoa(rnd.Intn(3)), strconv.Itoa(rnd.Intn(3))
	v, _ := json.Make(api.Pair{Name: "mxid", Value: words("@u" + u + ":s" + u)}, api.Pair{Name: "sender", Value: words("@u" + n + ":s" + n)}, api.Pair{Name: "token", Value: words(tok)})
	if rnd.Intn(3) > 0 {
		v, _ = seal.Sign(v, "id.org", "ed25519:0", edsig.Seed("thief"))
	}
	return api.Letter{To: "s" + n, Kind: 1 + rnd.Intn(2), Room: "!r:s0", User: "@u" + u + ":s" + u, Block: v}
}

// P2: Invites, Once, Falls and Signed, whatever comes, in whatever order.
func TestWhole(t *testing.T) {
	invited, vouched, falls := 0, 0, 0
	for round := range 5 {
		rnd := rand.New(rand.NewSource(int64(280 + round)))
		w, e := New(house(), 120, 3)
		if e != api.OK {
			t.Fatal(e)
		}
		x := &watch{play{t, w}, map[string]string{}, map[string]string{}, map[string]bool{}, 0, map[string]bool{}}
		start(x)
		for i := range 220 {
			a := chance(rnd, i)
			told := x.act(a)
			if told.Code != api.ErrDown && !x.w.ID.Down {
				continue
			}
			falls++
			x.recover(rnd)
		}
		invited += x.made
		vouched += len(x.blocks)
	}
	if invited < 6 || vouched < 6 || falls < 12 {
		t.Error("too little happened", invited, vouched, falls)
	}
}

// start lets three users come, agree, and join one room.
func start(x *watch) {
	join, _ := json.Make(api.Pair{Name: "membership", Value: words("join")})
	public, _ := json.Make(api.Pair{Name: "join_rule", Value: words("public")})
	x.order(0, 0, api.Order{Kind: api.OrdCreate, User: "@u0:s0", Room: "!r:s0"})
	x.order(0, 0, api.Order{Kind: api.OrdSend, User: "@u0:s0", Room: "!r:s0", Type: "m.room.join_rules", State: true, Content: public})
	x.deliver()
	for u := range 3 {
		user, token := "@u"+strconv.Itoa(u)+":s"+strconv.Itoa(u), "t"+strconv.Itoa(u)
		x.ask(0, api.Ask{Kind: api.AskRegister, Draws: []string{token}, Mxid: user})
		x.ask(0, api.Ask{Kind: api.AskAgree, Token: token, Docs: []string{"privacy"}})
		if u > 0 {
			x.order(0, u, api.Order{Kind: api.OrdSend, User: user, Room: "!r:s0", Type: "m.room.member", State: true, Key: user, Content: join})
			x.deliver()
		}
	}
	x.see()
}

// recover brings the power back, however often it goes; recovered again, all is as it was.
func (x *watch) recover(rnd *rand.Rand) {
	x.t.Helper()
	fates := []api.Fate{{Kind: uint8(rnd.Intn(3)), Cut: uint8(rnd.Intn(128))}, {Kind: uint8(rnd.Intn(3)), Cut: uint8(rnd.Intn(128))}}
	for fuse := rnd.Intn(5); ; fuse += 20 {
		if told := x.act(api.Act{Kind: api.ActCrash, M: fuse, Fates: fates}); told.Code == api.OK {
			break
		} else if told.Code != api.ErrDown {
			x.t.Fatal("not recovered", told)
		}
	}
	was := x.w.ID.State
	if told := x.act(api.Act{Kind: api.ActCrash, M: -1, Fates: fates}); told.Code != api.OK || !reflect.DeepEqual(x.w.ID.State, was) {
		x.t.Fatal("recovered again", told)
	}
}

// P2: Fair. Where what is sent comes, in whatever order, and the bind comes in time, both homeservers hold the invite.
func TestFair(t *testing.T) {
	for round := range 40 {
		rnd := rand.New(rand.NewSource(int64(round)))
		p := begin(t)
		p.do(0, invite())
		p.ask(0, api.Ask{Kind: api.AskRequest, Token: "tb", Secret: "s", Medium: "email", Where: "b@b.c", ID: 1, Attempt: 1, Draws: []string{"k"}})
		p.ask(0, submit("k"))
		p.ask(0, bind())
		for len(p.w.Net) > 0 {
			n := rnd.Intn(len(p.w.Net))
			if rnd.Intn(3) == 0 && len(p.w.Net) < 10 {
				p.do(0, api.Act{Kind: api.ActCopy, N: n})
			}
			l := p.w.Net[n]
			w, told := Do(p.w, api.Act{Kind: api.ActDeliver, N: n})
			p.w = w
			// An event ahead of what it follows isn't taken: it is sent again, until it is.
			if told.Code == api.ErrMissing {
				p.do(0, api.Act{Kind: api.ActForge, Letter: l})
			} else if told.Code != api.OK && told.Code != api.ErrTwice {
				t.Fatal(round, told)
			}
		}
		for n := range 2 {
			if m := p.membership(n, "@b:s1"); m != "invite" {
				t.Fatal(round, n, m)
			}
		}
	}
}

// P2: Taken back. A token that was taken back becomes no invite, at whichever server its block comes again.
func TestTakenBack(t *testing.T) {
	for round := range 20 {
		rnd := rand.New(rand.NewSource(int64(round)))
		p := shown(t)
		p.ask(0, submit("k"))
		steps := []func(){
			func() { p.ask(0, bind()) },
			func() {
				p.order(0, 0, api.Order{Kind: api.OrdRevoke, User: "@a:s0", Room: "!r:s0", Token: "tok"})
			},
		}
		if rnd.Intn(2) == 0 {
			slices.Reverse(steps)
		}
		steps[0]()
		steps[1]()
		for range 30 {
			if len(p.w.Net) == 0 {
				break
			}
			n := rnd.Intn(len(p.w.Net))
			if rnd.Intn(2) == 0 {
				p.w, _ = Do(p.w, api.Act{Kind: api.ActCopy, N: n})
			}
			p.w, _ = Do(p.w, api.Act{Kind: api.ActDeliver, N: n})
		}
		for n := range 2 {
			if m := p.membership(n, "@b:s1"); m != "" {
				t.Fatal(round, n, m)
			}
		}
	}
}
