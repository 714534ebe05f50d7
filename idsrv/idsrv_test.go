package idsrv

import (
	"math"
	"math/rand"
	"reflect"
	"strconv"
	"strings"
	"testing"

	"vouchsafe/api"
	"vouchsafe/base"
	"vouchsafe/canon"
	"vouchsafe/disk"
	"vouchsafe/edsig"
	"vouchsafe/json"
	"vouchsafe/lookup"
	"vouchsafe/pledge"
)

func house() api.House {
	return api.House{Signer: api.Signer{Server: "id.org", Key: "ed25519:0", Seed: edsig.Seed("id")}, Terms: []string{"privacy"}}
}

func show(v api.Value) string {
	s, _ := canon.Print(v)
	return s
}

// script takes steps, each of which must be told so.
type script struct {
	t *testing.T
	s api.Identity
}

func (x *script) step(want api.Errno, a api.Ask) api.Answer {
	x.t.Helper()
	was, _ := Pack(x.s)
	s, answer := Step(house(), x.s, a)
	if answer.Code != want {
		x.t.Errorf("%+v: %d, not %d", a, answer.Code, want)
	}
	if kept, e := Pack(x.s); e != api.OK || !reflect.DeepEqual(was, kept) || !rightState(s) {
		x.t.Errorf("%+v: what was handed in, or the state, is wrong", a)
	}
	if want != api.OK && (!reflect.DeepEqual(answer, api.Answer{Code: want}) || want != api.ErrToken && !same(s, x.s)) {
		x.t.Errorf("%+v: beside an error %+v", a, answer)
	}
	x.s = s
	return answer
}

// begin is a state of two users: ta and tb, who agreed; and tc, who didn't.
func begin(t *testing.T) *script {
	x := &script{t, api.Identity{Pepper: "p"}}
	for _, u := range []string{"a", "b", "c"} {
		if r := x.step(0, api.Ask{Kind: api.AskRegister, Draws: []string{"t" + u, "x"}, Mxid: "@" + u + ":h"}); r.Text != "t"+u {
			t.Error(r)
		}
	}
	x.step(0, api.Ask{Kind: api.AskAgree, Token: "ta", Docs: []string{"privacy", "more"}})
	x.step(0, api.Ask{Kind: api.AskAgree, Token: "tb", Docs: []string{"privacy"}})
	return x
}

func TestUsers(t *testing.T) {
	x := begin(t)
	x.step(api.ErrTwice, api.Ask{Kind: api.AskRegister, Draws: []string{"ta"}, Mxid: "@a:h"})
	x.step(api.ErrArg, api.Ask{Kind: api.AskRegister, Mxid: "@a:h"})
	x.step(api.ErrArg, api.Ask{Kind: api.AskRegister, Draws: []string{"td"}, Mxid: "a"})
	x.step(api.ErrAuth, api.Ask{Kind: api.AskLogout, Token: "td"})
	x.step(api.ErrAuth, api.Ask{Kind: api.AskAgree, Token: "td", Docs: []string{"privacy"}})
	x.step(api.ErrArg, api.Ask{Kind: api.AskAgree, Token: "ta", Docs: []string{""}})
	x.step(0, api.Ask{Kind: api.AskLogout, Token: "ta"})
	x.step(api.ErrAuth, api.Ask{Kind: api.AskDetails, Token: "ta"})
	for _, kind := range []int{0, -1, 16, math.MaxInt, math.MinInt} {
		x.step(api.ErrArg, api.Ask{Kind: kind, Token: "tb"})
	}
	for _, kind := range []int{api.AskRequest, api.AskBind, api.AskDetails, api.AskLookup, api.AskStore} {
		x.step(api.ErrTerms, api.Ask{Kind: kind, Token: "tc"})
		x.step(api.ErrAuth, api.Ask{Kind: kind, Token: "ta"})
	}
	for _, kind := range []int{api.AskValidated, api.AskUnbind, api.AskBlock} {
		x.step(api.ErrAuth, api.Ask{Kind: kind, Token: "ta"})
	}
	x.step(api.ErrSession, api.Ask{Kind: api.AskValidated, Token: "tc"})
}

func TestSessions(t *testing.T) {
	x := begin(t)
	ask := api.Ask{Kind: api.AskRequest, Token: "tb", Secret: "s", Medium: "email", Where: "B@b.c", ID: 1, Attempt: 1, Draws: []string{"k"}}
	r := x.step(0, ask)
	if r.Text != "1" || r.Mail != (api.Mail{Who: api.Address{Medium: "email", Where: "b@b.c"}, ID: 1, Token: "k"}) {
		t.Errorf("%+v", r)
	}
	again := ask
	again.ID, again.Draws = 7, []string{"other"}
	if r := x.step(0, again); r.Text != "1" || r.Mail != (api.Mail{}) {
		t.Errorf("%+v", r)
	}
	again.Attempt = 2
	if r := x.step(0, again); r.Text != "1" || r.Mail.Token != "k" || r.Mail.ID != 1 {
		t.Errorf("%+v", r)
	}
	wrong := ask
	wrong.Medium = "post"
	x.step(api.ErrArg, wrong)
	wrong.Medium, wrong.Where = "email", "b"
	x.step(api.ErrForm, wrong)
	wrong.Where, wrong.Draws = "z@b.c", []string{"k"}
	x.step(api.ErrTwice, wrong)
	wrong.Draws = nil
	x.step(api.ErrArg, wrong)
	submit := api.Ask{Kind: api.AskSubmit, ID: 1, Secret: "s", Code: "x"}
	for range 3 {
		x.step(api.ErrToken, submit)
	}
	x.step(api.ErrMany, submit)
	submit.Code = "k"
	x.step(api.ErrMany, submit)
	ask.ID, ask.Secret, ask.Draws = 2, "s2", []string{"k2"}
	x.step(0, ask)
	x.step(api.ErrAuth, api.Ask{Kind: api.AskValidated, Token: "tc", ID: 2, Secret: "s2"})
	x.step(0, api.Ask{Kind: api.AskSubmit, ID: 2, Secret: "s2", Code: "k2"})
	if r := x.step(0, api.Ask{Kind: api.AskValidated, Token: "tc", ID: 2, Secret: "s2"}); r.Text != "email b@b.c" {
		t.Errorf("%+v", r)
	}
	x.step(0, api.Ask{Kind: api.AskTick, N: 86401})
	x.step(api.ErrSession, api.Ask{Kind: api.AskSubmit, ID: 2, Secret: "s2", Code: "k2"})
}

func TestBindAndStore(t *testing.T) {
	x := begin(t)
	keys := house().Signer.Seed
	public := edsig.Public(keys)
	store := api.Ask{Kind: api.AskStore, Token: "ta", Medium: "email", Where: "B@b.c", Room: "!r:h", Sender: "@a:h", Draws: []string{"tok", "seed"}}
	r := x.step(0, store)
	ephemeral := pledge.Key(api.Pledge{Seed: "seed"})
	if r.Text != "tok" || show(r.Value) != `{"ephemeral":"`+ephemeral+`","public":"`+base.Encode(public[:])+`"}` {
		t.Errorf("%+v", r)
	}
	x.step(api.ErrTwice, store)
	for i, change := range []func(a *api.Ask){func(a *api.Ask) { a.Draws = a.Draws[:1] }, func(a *api.Ask) { a.Draws = nil }, func(a *api.Ask) { a.Room = "r" }, func(a *api.Ask) { a.Sender = "" }, func(a *api.Ask) { a.Medium = "" }} {
		a := store
		change(&a)
		x.step(api.ErrArg, a)
		_ = i
	}
	valid := func(code, want string) {
		t.Helper()
		if r := x.step(0, api.Ask{Kind: api.AskValid, Code: code}); show(r.Value) != want {
			t.Error(code, show(r.Value))
		}
	}
	valid(base.Encode(public[:]), "true")
	valid(ephemeral, "true")
	valid("", "false")
	x.step(api.ErrNone, api.Ask{Kind: api.AskBlock, Token: "tc", Code: "tok"})
	x.step(api.ErrNone, api.Ask{Kind: api.AskBlock, Token: "tc", Code: "none"})
	x.step(0, api.Ask{Kind: api.AskTick, N: 5})
	x.step(0, api.Ask{Kind: api.AskRequest, Token: "tb", Secret: "s", Medium: "email", Where: "b@b.c", ID: 1, Attempt: 1, Draws: []string{"k"}})
	bind := api.Ask{Kind: api.AskBind, Token: "tb", Mxid: "@b:h", ID: 1, Secret: "s"}
	x.step(api.ErrAuth, bind)
	x.step(0, api.Ask{Kind: api.AskSubmit, ID: 1, Secret: "s", Code: "k"})
	stranger := bind
	stranger.Token = "ta"
	x.step(api.ErrAuth, stranger)
	nobody := bind
	nobody.ID = 3
	x.step(api.ErrSession, nobody)
	r = x.step(0, bind)
	if len(r.Blocks) != 1 || pledge.Check(r.Blocks[0], house().Signer, base.Encode(public[:])) != api.OK || !strings.Contains(show(r.Blocks[0]), `"mxid":"@b:h","sender":"@a:h"`) {
		t.Errorf("%+v", r)
	}
	valid(ephemeral, "false")
	if again := x.step(0, bind); len(again.Blocks) > 0 {
		t.Errorf("%+v", again)
	}
	if b := x.step(0, api.Ask{Kind: api.AskBlock, Token: "tc", Code: "tok"}); !json.Same(b.Value, r.Blocks[0]) {
		t.Errorf("%+v", b)
	}
	if len(x.s.Bonds) != 1 || x.s.Bonds[0] != (api.Bond{Who: api.Address{Medium: "email", Where: "b@b.c"}, Mxid: "@b:h", Since: 5}) {
		t.Error(x.s.Bonds)
	}
	store.Draws = []string{"tok2", "seed2"}
	x.step(api.ErrTwice, store)
	if d := x.step(0, api.Ask{Kind: api.AskDetails, Token: "ta"}); !strings.Contains(show(d.Value), `"lookup_pepper":"p"`) {
		t.Errorf("%+v", d)
	}
	hash := lookup.Hash("p", x.s.Bonds[0].Who)
	q := api.Question{Algorithm: "sha256", Pepper: "p", Addresses: []string{hash}}
	if d := x.step(0, api.Ask{Kind: api.AskLookup, Token: "ta", Question: q}); show(d.Value) != `{"`+hash+`":"@b:h"}` {
		t.Errorf("%+v", d)
	}
	x.step(api.ErrArg, api.Ask{Kind: api.AskPepper, Code: ""})
	x.step(0, api.Ask{Kind: api.AskPepper, Code: "q"})
	x.step(api.ErrPepper, api.Ask{Kind: api.AskLookup, Token: "ta", Question: q})
	unbind := api.Ask{Kind: api.AskUnbind, Token: "tc", Medium: "email", Where: "B@b.c"}
	x.step(api.ErrAuth, unbind)
	unbind.Token = "tb"
	x.step(0, unbind)
	x.step(api.ErrNone, unbind)
	unbind.Where = ""
	x.step(api.ErrForm, unbind)
	store.Where = "b@b.c"
	x.step(0, store)
}

// What is full is told, and nothing is changed.
func TestFull(t *testing.T) {
	x := begin(t)
	x.step(0, api.Ask{Kind: api.AskRequest, Token: "tb", Secret: "s", Medium: "email", Where: "b@b.c", ID: 1, Attempt: 1, Draws: []string{"k"}})
	x.step(0, api.Ask{Kind: api.AskSubmit, ID: 1, Secret: "s", Code: "k"})
	store := api.Ask{Kind: api.AskStore, Token: "ta", Medium: "email", Where: "b@b.c", Room: "!r:h", Sender: "@a:h"}
	for i := range 33 {
		store.Draws = []string{"tok" + strconv.Itoa(i), "seed"}
		if i < 32 {
			x.step(0, store)
		} else {
			x.step(api.ErrFull, store)
		}
	}
	for i := range 64 {
		x.s.Bonds = append(x.s.Bonds, api.Bond{Who: api.Address{Medium: "msisdn", Where: strconv.Itoa(100000 + i)}, Mxid: "@a:h"})
	}
	bind := api.Ask{Kind: api.AskBind, Token: "tb", Mxid: "@b:h", ID: 1, Secret: "s"}
	x.step(api.ErrFull, bind)
	x.s.Bonds = x.s.Bonds[:63]
	if r := x.step(0, bind); len(r.Blocks) != 32 {
		t.Error(len(r.Blocks))
	}
	for i := range 13 {
		x.step(0, api.Ask{Kind: api.AskRegister, Draws: []string{"u" + strconv.Itoa(i)}, Mxid: "@u:h"})
	}
	x.step(api.ErrFull, api.Ask{Kind: api.AskRegister, Draws: []string{"z"}, Mxid: "@u:h"})
}

func TestTick(t *testing.T) {
	x := begin(t)
	for _, n := range []int{-1, 1<<40 + 1, math.MaxInt, math.MinInt} {
		x.step(api.ErrArg, api.Ask{Kind: api.AskTick, N: n})
	}
	x.step(0, api.Ask{Kind: api.AskTick, N: 7})
	x.step(0, api.Ask{Kind: api.AskTick, N: 1 << 40})
	if x.s.Now != 1<<40 {
		t.Error(x.s.Now)
	}
}

func TestWrongHouse(t *testing.T) {
	good := house()
	for i, change := range []func(h *api.House){
		func(h *api.House) { h.Signer.Server = "" }, func(h *api.House) { h.Signer.Key = "0" }, func(h *api.House) { h.Terms = []string{""} }, func(h *api.House) { h.Terms = []string{"1", "2", "3", "4", "5"} },
	} {
		h := good
		change(&h)
		s, a := Step(h, api.Identity{Pepper: "p"}, api.Ask{Kind: api.AskTick, N: 1})
		_, e := New(h, 100)
		_, f := Unpack(h, [][]byte{[]byte(`["m",0,"p"]`)})
		if Right(h) || a.Code != api.ErrArg || s.Now != 0 || e != api.ErrArg || f != api.ErrDamage {
			t.Error(i, a, e, f)
		}
	}
	good.Terms = []string{"d", "c", "b", "a"}
	if !Right(good) {
		t.Error("four terms, in any order")
	}
	for i, s := range []api.Identity{{}, {Pepper: "p", Now: -1}, {Pepper: "p", Users: make([]api.User, 1)}, {Pepper: "p", Bonds: make([]api.Bond, 1)}, {Pepper: "p", Sessions: make([]api.Session, 1)}, {Pepper: "p", Pledges: make([]api.Pledge, 1)}} {
		after, a := Step(house(), s, api.Ask{Kind: api.AskTick, N: 1})
		l, e := Pack(s)
		if a.Code != api.ErrArg || !reflect.DeepEqual(after, s) || e != api.ErrArg || len(l) > 0 {
			t.Error(i, a, e)
		}
	}
}

func TestRecord(t *testing.T) {
	a := api.Ask{Kind: 4, Token: "to", Secret: "se", Medium: "me", Where: "w\"h", Mxid: "mx", Room: "ro", Sender: "sn", ID: -5, Attempt: api.MaxInt, Code: "é", N: 9, Docs: []string{"d1", "d2"}, Draws: []string{"r"}, Question: api.Question{Algorithm: "al", Pepper: "pe", Addresses: []string{"x", ""}}}
	want := `["a",4,"to","se","me","w\"h","mx","ro","sn",-5,9007199254740991,"é",9,["d1","d2"],["r"],"al","pe",["x",""]]`
	b, e := Record(a)
	if e != api.OK || string(b) != want {
		t.Error(string(b), e)
	}
	if r, e := Read(b); e != api.OK || !reflect.DeepEqual(r, a) {
		t.Error(r, e)
	}
	empty, _ := Record(api.Ask{})
	if string(empty) != `["a",0,"","","","","","","",0,0,"",0,[],[],"","",[]]` {
		t.Error(string(empty))
	}
	long := strings.Repeat("x", 4096-len(empty))
	if b, e := Record(api.Ask{Code: long}); e != api.OK || len(b) != 4096 {
		t.Error(e)
	}
	for i, x := range []struct {
		a    api.Ask
		want api.Errno
	}{{api.Ask{Code: long + "x"}, api.ErrLong}, {api.Ask{Code: strings.Repeat("x", 100000)}, api.ErrLong}, {api.Ask{Code: long + "x", N: api.MaxInt + 1}, api.ErrArg}, {api.Ask{Kind: math.MinInt}, api.ErrArg}, {api.Ask{Token: "\xff"}, api.ErrArg}, {api.Ask{Docs: []string{"", "\xff"}}, api.ErrArg}, {api.Ask{Question: api.Question{Addresses: []string{"\xff"}}}, api.ErrArg}, {api.Ask{ID: -api.MaxInt - 1}, api.ErrArg}} {
		if b, e := Record(x.a); e != x.want || len(b) > 0 {
			t.Error(i, e)
		}
	}
	for _, s := range []string{
		"", "[]", "null", `["a"]`, `{}`, `["b"` + string(empty)[4:], string(empty) + " ", " " + string(empty), strings.Replace(string(empty), "0", `"0"`, 1), strings.Replace(string(empty), `""`, `1`, 1), strings.Replace(string(empty), `[]`, `[1]`, 1), strings.Replace(string(empty), `[]`, `""`, 1),
		strings.Replace(string(empty), `[]]`, `[],1]`, 1), strings.Replace(string(empty), `""`, `"\u0041"`, 1), strings.Replace(want, "9,[", "9, [", 1), strings.Replace(string(empty), `""`, `"`+long+`x"`, 1), `["m",0,"p"]`,
	} {
		if a, e := Read([]byte(s)); e != api.ErrForm || !reflect.DeepEqual(a, api.Ask{}) {
			t.Error(s, e)
		}
	}
}

// P21.2: what is packed is unpacked as it was; nothing else is a state's records.
func TestPack(t *testing.T) {
	x := begin(t)
	x.step(0, api.Ask{Kind: api.AskTick, N: 7})
	x.step(0, api.Ask{Kind: api.AskStore, Token: "ta", Medium: "email", Where: "b@b.c", Room: "!r:h", Sender: "@a:h", Draws: []string{"tok", "seed"}})
	x.step(0, api.Ask{Kind: api.AskRequest, Token: "tb", Secret: "s\"", Medium: "email", Where: "b@b.c", ID: 1, Attempt: 3, Draws: []string{"k"}})
	x.step(0, api.Ask{Kind: api.AskSubmit, ID: 1, Secret: "s\"", Code: "k"})
	x.step(api.ErrToken, api.Ask{Kind: api.AskSubmit, ID: 1, Secret: "s\"", Code: "z"})
	x.step(0, api.Ask{Kind: api.AskBind, Token: "tb", Mxid: "@b:h", ID: 1, Secret: "s\""})
	l, e := Pack(x.s)
	want := []string{`["m",7,"p"]`, `["s",1,"s\"","email","b@b.c","k",3,7,1,1,7]`, `["u","ta","@a:h",["more","privacy"]]`, `["u","tb","@b:h",["privacy"]]`, `["u","tc","@c:h",[]]`, `["b","email","b@b.c","@b:h",7]`, `["p","tok","email","b@b.c","!r:h","@a:h","seed","@b:h"]`}
	if e != api.OK || len(l) != len(want) {
		t.Fatal(l, e)
	}
	for i := range l {
		if string(l[i]) != want[i] {
			t.Error(string(l[i]), want[i])
		}
	}
	s, e := Unpack(house(), l)
	if e != api.OK || !same(s, x.s) {
		t.Error(s, e)
	}
	tick, _ := Record(api.Ask{Kind: api.AskTick, N: 3})
	unknown, _ := Record(api.Ask{Kind: 99})
	if s, e := Unpack(house(), append(l[:len(l):len(l)], tick, unknown, tick)); e != api.OK || s.Now != 13 {
		t.Error(s, e)
	}
	bad := func(name string, records ...[]byte) {
		t.Helper()
		if s, e := Unpack(house(), records); e != api.ErrDamage || !same(s, api.Identity{}) {
			t.Error(name, e)
		}
	}
	m := []byte(`["m",7,"p"]`)
	bad("none")
	bad("no state", tick)
	bad("no main", l[1:]...)
	bad("two mains", m, m)
	bad("a question, then a user", m, tick, l[2])
	bad("order", m, l[2], l[1])
	bad("users' order", m, l[3], l[2])
	bad("blank", []byte(`["m", 7,"p"]`))
	bad("a bool of 2", m, []byte(`["s",1,"s","email","b@b.c","k",3,7,1,2,7]`))
	bad("shown at", m, []byte(`["s",1,"s","email","b@b.c","k",3,7,1,0,7]`))
	bad("short", m, []byte(`["u","ta","@a:h"]`))
	bad("long", m, []byte(`["u","ta","@a:h",[],1]`))
	bad("wrong", []byte(`["m",-1,"p"]`))
	bad("not a list", m, []byte(`{"u":1}`))
	bad("not a text", m, []byte("\xff"))
	bad("unknown", m, []byte(`["x"]`))
}

func TestNew(t *testing.T) {
	for _, n := range []int{0, 7, 2049, -1} {
		s, e := New(house(), n)
		if e != api.ErrArg || !reflect.DeepEqual(s, api.Server{}) {
			t.Error(n, e)
		}
	}
	for _, n := range []int{8, 300, 2048} {
		s, e := New(house(), n)
		if e != api.OK || s.Down || s.Log != (api.Log{Half: 1, Gen: 2, Used: 2}) || len(s.Disk.Sectors) != n || !same(s.State, api.Identity{Pepper: "p"}) {
			t.Error(n, s.Log, e)
		}
		c, e := Crash(house(), s, nil, -1)
		if e != api.OK || c.Down || !same(c.State, s.State) || c.Log.Half != 0 || c.Log.Gen != 3 {
			t.Error(n, c.Log, e)
		}
	}
}

func TestDo(t *testing.T) {
	s, _ := New(house(), 40)
	down := s
	down.Down = true
	if r, a := Do(house(), down, api.Ask{Kind: api.AskTick, N: 1}); a.Code != api.ErrDown || !reflect.DeepEqual(r, down) {
		t.Error(a)
	}
	for i, a := range []api.Ask{{Kind: api.AskTick}, {Kind: api.AskTick, N: -1}, {Kind: 99}, {Kind: api.AskPepper, Code: "p"}, {Kind: api.AskTick, N: 1, Token: "\xff"}, {Kind: api.AskTick, N: 1, Token: strings.Repeat("x", 5000)}, {Kind: api.AskValid}} {
		r, answer := Do(house(), s, a)
		want := []api.Errno{0, api.ErrArg, api.ErrArg, 0, api.ErrArg, api.ErrLong, 0}[i]
		if answer.Code != want || !reflect.DeepEqual(r, s) {
			t.Error(i, answer)
		}
	}
	r, a := Do(house(), s, api.Ask{Kind: api.AskTick, N: 4})
	if a.Code != api.OK || r.State.Now != 4 || r.Log.Used != 3 || s.State.Now != 0 {
		t.Error(a, r.Log)
	}
	big := api.Ask{Kind: api.AskTick, N: 1, Code: strings.Repeat("x", 700)}
	for range 2 {
		r, a = Do(house(), r, big)
	}
	if a.Code != api.OK || r.Log.Used != 19 || r.Log.Half != 1 {
		t.Error(a, r.Log)
	}
	r, a = Do(house(), r, big)
	if a.Code != api.OK || r.State.Now != 7 || r.Log != (api.Log{Half: 0, Gen: 3, Used: 10}) {
		t.Error("compacted", a, r.Log)
	}
	huge := api.Ask{Kind: api.AskTick, N: 1, Code: strings.Repeat("x", 3000)}
	f, a := Do(house(), r, huge)
	if a.Code != api.ErrFull || f.State.Now != 7 || f.Down || f.Log != (api.Log{Half: 1, Gen: 4, Used: 2}) {
		t.Error("full", a, f.Log)
	}
	armed := r
	armed.Disk = disk.Arm(r.Disk, 0)
	f, a = Do(house(), armed, big)
	if a.Code != api.ErrDown || !f.Down || f.State.Now != 7 || !f.Disk.Down || f.Log != r.Log || !reflect.DeepEqual(a, api.Answer{Code: api.ErrDown}) {
		t.Error("down", a, f.Log)
	}
}

// P21.3: wherever the power goes, behind a crash all is known that was answered, and perhaps what was under way.
func TestFalls(t *testing.T) {
	rnd := rand.New(rand.NewSource(21))
	for round := range 60 {
		s, _ := New(house(), 30+rnd.Intn(60))
		for step := range 60 {
			s.Disk = disk.Arm(s.Disk, rnd.Intn(20)-4)
			u := strconv.Itoa(rnd.Intn(4))
			a := []api.Ask{
				{Kind: api.AskRegister, Draws: []string{"t" + u}, Mxid: "@u" + u + ":h"}, {Kind: api.AskAgree, Token: "t" + u, Docs: []string{"privacy"}}, {Kind: api.AskLogout, Token: "t" + u},
				{Kind: api.AskRequest, Token: "t" + u, Secret: "s" + u, Medium: "email", Where: u + "@b.c", ID: 1 + step, Attempt: 1 + rnd.Intn(9), Draws: []string{"k" + strconv.Itoa(step)}},
				{Kind: api.AskTick, N: rnd.Intn(3)}, {Kind: api.AskPepper, Code: "p" + u}, {Kind: api.AskSubmit, ID: 1 + rnd.Intn(step+1), Secret: "s" + u, Code: "k" + strconv.Itoa(rnd.Intn(step+1))},
			}[rnd.Intn(7)]
			may, _ := Step(house(), s.State, a)
			was := s
			var answer api.Answer
			s, answer = Do(house(), s, a)
			if answer.Code != api.ErrDown {
				continue
			}
			if !s.Down || !same(s.State, was.State) {
				t.Fatal(round, step)
			}
			fates := []api.Fate{{Kind: uint8(rnd.Intn(3)), Cut: uint8(rnd.Intn(128))}, {Kind: uint8(rnd.Intn(3)), Cut: uint8(rnd.Intn(128))}}
			e := api.ErrDown
			for fuse := rnd.Intn(6); e == api.ErrDown; fuse += 10 {
				s, e = Crash(house(), s, fates, fuse)
				if e == api.ErrDown && (!s.Down || !same(s.State, api.Identity{}) || s.Log != (api.Log{})) {
					t.Fatal("beside an error")
				}
			}
			if e != api.OK || s.Down || !same(s.State, was.State) && !same(s.State, may) {
				t.Fatal(round, step, e)
			}
			again, e := Crash(house(), s, fates, -1)
			if e != api.OK || !same(again.State, s.State) {
				t.Fatal(round, step, e)
			}
		}
	}
	s, _ := New(house(), 30)
	wrong := s
	wrong.Disk = api.Disk{}
	if r, e := Crash(house(), wrong, nil, -1); e != api.ErrArg || !reflect.DeepEqual(r, wrong) {
		t.Error(e)
	}
	blank := s
	blank.Disk, _ = disk.New(30)
	if r, e := Crash(house(), blank, nil, -1); e != api.ErrDamage || !reflect.DeepEqual(r, api.Server{Disk: blank.Disk, Down: true}) {
		t.Error(e)
	}
	h := house()
	h.Terms = []string{""}
	if r, e := Crash(h, s, nil, -1); e != api.ErrDamage || !r.Down || r.Disk.Sectors == nil || r.Log != (api.Log{}) {
		t.Error(e)
	}
}
