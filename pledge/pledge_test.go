package pledge

import (
	"encoding/base64"
	"math/rand"
	"reflect"
	"slices"
	"strconv"
	"strings"
	"testing"

	"vouchsafe/api"
	"vouchsafe/canon"
	"vouchsafe/edsig"
	"vouchsafe/json"
	"vouchsafe/seal"
)

func mail(s string) api.Address { return api.Address{Medium: "email", Where: s + "@b.c"} }

func one(token, where string) api.Pledge {
	return api.Pledge{Token: token, Who: mail(where), Room: "!r:h", Sender: "@s:h", Seed: "seed" + token}
}

func many(n int) []api.Pledge {
	var l []api.Pledge
	for i := range n {
		l = append(l, one("t"+strconv.Itoa(100+i), "a"))
	}
	return l
}

func show(v api.Value) string {
	s, _ := canon.Print(v)
	return s
}

func TestRight(t *testing.T) {
	bound := one("b", "a")
	bound.Bound = "@x:h"
	for i, l := range [][]api.Pledge{nil, many(32), {one("a", "a"), bound}, {one("B", "a"), one("a", "a")}} {
		if !Right(l) {
			t.Error(i)
		}
	}
	wrong := func(change func(*api.Pledge)) []api.Pledge {
		p := one("a", "a")
		change(&p)
		return []api.Pledge{p}
	}
	for i, l := range [][]api.Pledge{
		many(33), {one("b", "a"), one("a", "a")}, {one("a", "a"), one("a", "b")},
		wrong(func(p *api.Pledge) { p.Token = "" }), wrong(func(p *api.Pledge) { p.Token = "a b" }), wrong(func(p *api.Pledge) { p.Seed = "" }), wrong(func(p *api.Pledge) { p.Seed = strings.Repeat("x", 65) }),
		wrong(func(p *api.Pledge) { p.Who.Where = "A@b.c" }), wrong(func(p *api.Pledge) { p.Room = "@r:h" }), wrong(func(p *api.Pledge) { p.Sender = "s" }), wrong(func(p *api.Pledge) { p.Bound = "x" }),
	} {
		r1, e1 := Store(l, one("z", "z"))
		r2, s, e2 := Settle(l, mail("a"), "@x:h")
		f, ok := Find(l, l[0].Token)
		if Right(l) || e1 != api.ErrArg || e2 != api.ErrArg || ok || f != (api.Pledge{}) || len(s) > 0 || Valid(l, Key(l[0])) || !reflect.DeepEqual([][]api.Pledge{r1, r2}, [][]api.Pledge{l, l}) {
			t.Error(i, e1, e2)
		}
		if len(l) == 1 {
			if r, e := Store(nil, l[0]); e != api.ErrArg || len(r) > 0 {
				t.Error(i, e)
			}
			if l[0].Bound == "" {
				l[0].Bound = "@x:h"
			}
			if _, e := Block(l[0], api.Signer{Server: "h", Key: "ed25519:0"}); e != api.ErrArg {
				t.Error(i, e)
			}
		}
	}
}

func TestStore(t *testing.T) {
	l := []api.Pledge{one("b", "a"), one("d", "a")}
	for i, x := range []struct {
		token string
		at    int
		e     api.Errno
	}{{"a", 0, 0}, {"c", 1, 0}, {"e", 2, 0}, {"b", 0, api.ErrTwice}, {"d", 0, api.ErrTwice}} {
		r, e := Store(l, one(x.token, "q"))
		if e != x.e || e == api.OK && (len(r) != 3 || r[x.at] != one(x.token, "q") || !Right(r)) || e != api.OK && !reflect.DeepEqual(r, l) {
			t.Error(i, r, e)
		}
	}
	bound := one("x", "a")
	bound.Bound = "@x:h"
	if _, e := Store(l, bound); e != api.ErrArg {
		t.Error(e)
	}
	if r, e := Store(many(32), one("x", "a")); e != api.ErrFull || len(r) != 32 {
		t.Error(e)
	}
	if _, e := Store(many(32), one("t100", "a")); e != api.ErrTwice {
		t.Error(e)
	}
	for i, token := range []string{"b", "d"} {
		if p, ok := Find(l, token); !ok || p != l[i] {
			t.Error(p)
		}
	}
	if p, ok := Find(l, "c"); ok || p != (api.Pledge{}) {
		t.Error(p)
	}
}

func TestSettle(t *testing.T) {
	l := []api.Pledge{one("a", "x"), one("b", "y"), one("c", "x")}
	after, settled, e := Settle(l, mail("x"), "@u:h")
	if e != api.OK || len(settled) != 2 || settled[0] != after[0] || settled[1] != after[2] || after[0].Bound != "@u:h" || after[2].Bound != "@u:h" || after[1] != l[1] || l[0].Bound != "" {
		t.Error(after, settled, e)
	}
	again, none, e := Settle(after, mail("x"), "@v:h")
	if e != api.OK || len(none) > 0 || !reflect.DeepEqual(again, after) {
		t.Error(again, none, e)
	}
	if r, s, e := Settle(l, mail("x"), ""); e != api.ErrArg || len(s) > 0 || !reflect.DeepEqual(r, l) {
		t.Error(e)
	}
	if _, s, e := Settle(l, api.Address{}, "@u:h"); e != api.OK || len(s) > 0 {
		t.Error(e)
	}
	key := edsig.Public(edsig.Seed("seedb"))
	want := base64.RawStdEncoding.EncodeToString(key[:])
	if Key(l[1]) != want || !Valid(l, want) || !Valid(l, Key(l[0])) || Valid(after, Key(l[0])) || !Valid(after, want) || Valid(l, "") || Valid(nil, want) || Key(api.Pledge{}) == "" {
		t.Error("keys")
	}
}

// P20.2: a token, once bound, is bound to the same user ever after, with a block of the same bytes.
func TestAtMostOne(t *testing.T) {
	rnd := rand.New(rand.NewSource(20))
	signer := api.Signer{Server: "id.org", Key: "ed25519:0", Seed: edsig.Seed("id")}
	var l []api.Pledge
	blocks := map[string]string{}
	for range 400 {
		if rnd.Intn(2) == 0 {
			l, _ = Store(l, one(strconv.Itoa(rnd.Intn(40)), strconv.Itoa(rnd.Intn(12))))
		} else {
			l, _, _ = Settle(l, mail(strconv.Itoa(rnd.Intn(12))), "@u"+strconv.Itoa(rnd.Intn(3))+":h")
		}
		if !Right(l) {
			t.Fatal(l)
		}
		if len(l) == 0 {
			continue
		}
		p := l[rnd.Intn(len(l))]
		v, e := Block(p, signer)
		if (e == api.OK) != (p.Bound != "") || e != api.OK && (e != api.ErrNone || !json.Same(v, api.Value{})) {
			t.Fatal(p, e)
		}
		if s := show(v); e == api.OK && blocks[p.Token] != s {
			if blocks[p.Token] != "" {
				t.Fatal(blocks[p.Token], s)
			}
			blocks[p.Token] = s
		}
	}
	if len(blocks) < 10 {
		t.Error(len(blocks))
	}
}

// P20.3: a block is checked by the key of whose seed it was signed.
func TestBlock(t *testing.T) {
	signer := api.Signer{Server: "id.org", Key: "ed25519:0", Seed: edsig.Seed("id")}
	p := one("t", "a")
	p.Bound = "@u:h"
	v, e := Block(p, signer)
	key := edsig.Public(signer.Seed)
	letters := base64.RawStdEncoding.EncodeToString(key[:])
	if e != api.OK || show(seal.Strip(v)) != `{"mxid":"@u:h","sender":"@s:h","token":"t"}` || !slices.Equal(seal.Signers(v), []string{"id.org ed25519:0"}) || Check(v, signer, letters) != api.OK {
		t.Fatal(show(v), e)
	}
	if e := Check(v, signer, Key(p)); e != api.ErrSign {
		t.Error(e)
	}
	other := signer
	other.Server = "other"
	if e := Check(v, other, letters); e != api.ErrNone {
		t.Error(e)
	}
	with := func(name, text string) api.Value {
		w, _ := json.With(v, name, api.Value{Kind: api.Text, Text: text})
		return w
	}
	number, _ := json.With(v, "token", api.Value{Kind: api.Number})
	list, _ := json.With(v, "signatures", api.Value{Kind: api.List})
	for i, x := range []struct {
		v    api.Value
		key  string
		want api.Errno
	}{
		{v, "", api.ErrForm}, {v, letters + "=", api.ErrForm}, {v, letters[:42], api.ErrForm}, {api.Value{}, letters, api.ErrForm}, {json.Without(v, "mxid"), letters, api.ErrForm}, {json.Without(v, "sender"), letters, api.ErrForm}, {json.Without(v, "token"), letters, api.ErrForm},
		{with("mxid", "u"), letters, api.ErrForm}, {with("sender", "!s:h"), letters, api.ErrForm}, {with("token", ""), letters, api.ErrForm}, {with("token", "a b"), letters, api.ErrForm}, {number, letters, api.ErrForm}, {with("token", "other"), letters, api.ErrSign}, {with("more", "x"), letters, api.ErrSign}, {with("unsigned", "x"), letters, api.OK},
		{list, letters, api.ErrArg}, {json.Without(v, "signatures"), letters, api.ErrNone},
		{api.Value{Kind: api.Object, Names: append([]string{"z"}, v.Names...), Items: append([]api.Value{{}}, v.Items...)}, letters, api.ErrForm},
	} {
		if e := Check(x.v, signer, x.key); e != x.want {
			t.Error(i, e)
		}
	}
	for i, s := range []api.Signer{{Server: "", Key: "ed25519:0"}, {Server: "h", Key: "0"}} {
		if w, e := Block(p, s); e != api.ErrArg || !json.Same(w, api.Value{}) {
			t.Error(i, e)
		}
	}
	p.Sender, p.Bound = "", ""
	if _, e := Block(p, signer); e != api.ErrNone {
		t.Error(e)
	}
}
