package seal

import (
	"slices"
	"strconv"
	"strings"
	"testing"

	"vouchsafe/api"
	"vouchsafe/base"
	"vouchsafe/canon"
	"vouchsafe/edsig"
	"vouchsafe/json"
)

func parse(t *testing.T, s string) api.Value {
	t.Helper()
	v, e := json.Parse(s)
	if e != api.OK {
		t.Fatal(s, e)
	}
	return v
}

func show(v api.Value) string {
	s, _ := canon.Print(v)
	return s
}

func TestKey(t *testing.T) {
	for _, s := range []string{"ed25519:1", "ed25519:azAZ_09", "ed25519:" + strings.Repeat("x", 32)} {
		if !Key(s) {
			t.Error(s)
		}
	}
	for _, s := range []string{"", "ed25519", "ed25519:", "ed25519:a-b", "ed25519:a b", "ed25519:é", "Ed25519:1", "x:1", "ed25519:" + strings.Repeat("x", 33), " ed25519:1", "ed25519:1:2"} {
		if Key(s) {
			t.Error(s)
		}
	}
}

func TestMessage(t *testing.T) {
	v := parse(t, `{"b":1,"unsigned":{"x":1},"signatures":7,"a":{"signatures":1}}`)
	if m, e := Message(v); e != api.OK || string(m) != `{"a":{"signatures":1},"b":1}` || show(Strip(v)) != string(m) {
		t.Error(string(m), e)
	}
	list := parse(t, `[1]`)
	wrong := api.Value{Kind: api.Object, Names: []string{"unsigned", "a"}, Items: make([]api.Value, 2)}
	long := api.Value{Kind: api.Object, Names: []string{"a"}, Items: []api.Value{{Kind: api.Text, Text: strings.Repeat("x", 9000)}}}
	signed := api.Value{Kind: api.Object, Names: []string{"signatures", "x"}, Items: []api.Value{parse(t, `{"h":{"k":"s"}}`), {}}}
	if len(Signers(signed)) != 1 {
		t.Error(Signers(signed))
	}
	signed.Items[1].Text = "not right"
	if len(Signers(signed)) > 0 {
		t.Error(Signers(signed))
	}
	if !json.Same(Strip(list), list) || !slices.Equal(Strip(wrong).Names, wrong.Names) {
		t.Error("strip")
	}
	for _, x := range []struct {
		v    api.Value
		want api.Errno
	}{{list, api.ErrArg}, {api.Value{}, api.ErrArg}, {wrong, api.ErrArg}, {long, api.ErrLong}} {
		if m, e := Message(x.v); e != x.want || len(m) > 0 {
			t.Error(x, m, e)
		}
	}
	if _, e := Sign(long, "h", "ed25519:1", [32]byte{}); e != api.ErrLong || Verify(long, "h", "ed25519:1", [32]byte{}) != api.ErrLong {
		t.Error(e)
	}
	if _, e := Sign(long, "h", "1", [32]byte{}); e != api.ErrArg {
		t.Error(e)
	}
}

// P12.2: what is signed is verified; the others stay; what isn't signed changes nothing.
func TestSigned(t *testing.T) {
	a, b := edsig.Seed("a"), edsig.Seed("b")
	v := parse(t, `{"x":[1,{"y":"é"}],"unsigned":{"age":1}}`)
	one, e := Sign(v, "h", "ed25519:1", a)
	two, f := Sign(one, "h.org:1", "ed25519:1", b)
	three, g := Sign(two, "h", "ed25519:0", b)
	if e != api.OK || f != api.OK || g != api.OK {
		t.Fatal(e, f, g)
	}
	three, _ = json.With(three, "unsigned", parse(t, `"other"`))
	for _, x := range []struct {
		server, key string
		seed        [32]byte
	}{{"h", "ed25519:1", a}, {"h.org:1", "ed25519:1", b}, {"h", "ed25519:0", b}} {
		if e := Verify(three, x.server, x.key, edsig.Public(x.seed)); e != api.OK {
			t.Error(x, e)
		}
		if e := Verify(three, x.server, x.key, edsig.Public(edsig.Seed("c"))); e != api.ErrSign {
			t.Error(x, e)
		}
		hurt, _ := json.With(three, "z", api.Value{})
		if e := Verify(hurt, x.server, x.key, edsig.Public(x.seed)); e != api.ErrSign {
			t.Error(x, e)
		}
	}
	if l := Signers(three); !slices.Equal(l, []string{"h ed25519:0", "h ed25519:1", "h.org:1 ed25519:1"}) {
		t.Error(l)
	}
	again, _ := Sign(two, "h", "ed25519:1", b)
	if Verify(again, "h", "ed25519:1", edsig.Public(b)) != api.OK || len(Signers(again)) != 2 {
		t.Error("in the stead")
	}
	m, _ := Message(v)
	s := edsig.Sign(a, m)
	if show(one) != `{"signatures":{"h":{"ed25519:1":"`+base.Encode(s[:])+`"}},"unsigned":{"age":1},"x":[1,{"y":"é"}]}` {
		t.Error(show(one))
	}
	if show(v) != `{"unsigned":{"age":1},"x":[1,{"y":"é"}]}` {
		t.Error("handed in", show(v))
	}
}

func TestVerifyErrors(t *testing.T) {
	a := edsig.Seed("a")
	good, _ := Sign(parse(t, `{}`), "h", "ed25519:1", a)
	letters := strings.Split(show(good), `"`)[7]
	for _, x := range []struct {
		text, server, key string
		want              api.Errno
	}{
		{show(good), "h", "ed25519:1", api.OK}, {show(good), "g", "ed25519:1", api.ErrNone}, {show(good), "h", "ed25519:2", api.ErrNone}, {show(good), "", "", api.ErrNone}, {`{}`, "h", "ed25519:1", api.ErrNone}, {`{"signatures":{"h":{}}}`, "h", "ed25519:1", api.ErrNone},
		{`{"signatures":{"h":{"ed25519:1":""}}}`, "h", "ed25519:1", api.ErrForm}, {`{"signatures":{"h":{"ed25519:1":"AAAA"}}}`, "h", "ed25519:1", api.ErrForm}, {`{"signatures":{"h":{"ed25519:1":"` + letters + `="}}}`, "h", "ed25519:1", api.ErrForm},
		{`{"signatures":{"h":{"ed25519:1":"` + strings.Repeat("A", 86) + `"}}}`, "h", "ed25519:1", api.ErrSign},
		{`{"signatures":1}`, "h", "ed25519:1", api.ErrArg}, {`{"signatures":null}`, "h", "ed25519:1", api.ErrArg}, {`{"signatures":[]}`, "h", "ed25519:1", api.ErrArg}, {`{"signatures":{"h":1}}`, "h", "ed25519:1", api.ErrArg}, {`{"signatures":{"g":[],"h":{"ed25519:1":""}}}`, "h", "ed25519:1", api.ErrArg}, {`{"signatures":{"h":{"ed25519:1":1}}}`, "h", "ed25519:1", api.ErrArg},
		{`[]`, "h", "ed25519:1", api.ErrArg},
	} {
		v := parse(t, x.text)
		if e := Verify(v, x.server, x.key, edsig.Public(a)); e != x.want {
			t.Error(x, e)
		}
		if x.want == api.ErrArg {
			if w, e := Sign(v, "h", "ed25519:1", a); e != api.ErrArg || !json.Same(w, api.Value{}) || len(Signers(v)) > 0 {
				t.Error(x, e)
			}
		}
	}
	for _, x := range [][2]string{{"", "ed25519:1"}, {"h..x", "ed25519:1"}, {"@a:h", "ed25519:1"}, {"h", ""}, {"h", "1"}, {"h", "ed25519:"}} {
		if w, e := Sign(parse(t, `{}`), x[0], x[1], a); e != api.ErrArg || !json.Same(w, api.Value{}) {
			t.Error(x, e)
		}
	}
}

func TestFull(t *testing.T) {
	seed := edsig.Seed("a")
	many := func(n int, inside string) string {
		var l []string
		for i := range n {
			l = append(l, `"`+string([]byte{byte('a' + i)})+`":`+inside)
		}
		return `{` + strings.Join(l, ",") + `}`
	}
	keys := func(n int) string {
		var l []string
		for i := range n {
			l = append(l, `"ed25519:`+strconv.Itoa(i)+`":""`)
		}
		return `{` + strings.Join(l, ",") + `}`
	}
	for _, x := range []struct {
		text, server, key string
		want              api.Errno
	}{
		{many(8, `{}`), "i", "ed25519:0", api.ErrFull}, {many(8, `{}`), "h", "ed25519:0", api.OK}, {many(7, `{}`), "i", "ed25519:0", api.OK}, {many(9, `{}`), "a", "ed25519:0", api.ErrArg},
		{many(2, keys(8)), "a", "ed25519:8", api.ErrFull}, {many(2, keys(8)), "a", "ed25519:7", api.OK}, {many(2, keys(7)), "a", "ed25519:8", api.OK}, {many(8, keys(8)), "b", "ed25519:1", api.OK}, {many(2, keys(9)), "a", "ed25519:0", api.ErrArg}, {many(2, keys(9)), "z", "ed25519:0", api.ErrArg},
	} {
		v := parse(t, `{"signatures":`+x.text+`}`)
		w, e := Sign(v, x.server, x.key, seed)
		if e != x.want {
			t.Error(x, e)
		}
		if e == api.OK && Verify(w, x.server, x.key, edsig.Public(seed)) != api.OK {
			t.Error(x)
		}
	}
	deep := parse(t, `{"a":`+strings.Repeat("[", 11)+strings.Repeat("]", 11)+`}`)
	if w, e := Sign(deep, "h", "ed25519:1", seed); e != api.OK || !json.Right(w) {
		t.Error(e)
	}
}
