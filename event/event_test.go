package event

import (
	"crypto/sha256"
	"encoding/base64"
	"math"
	"reflect"
	"slices"
	"strings"
	"testing"

	"vouchsafe/api"
	"vouchsafe/canon"
	"vouchsafe/edsig"
	"vouchsafe/json"
	"vouchsafe/seal"
	"vouchsafe/tree"
)

func signer() api.Signer {
	return api.Signer{Server: "h", Key: "ed25519:0", Seed: edsig.Seed("h")}
}

func parse(t *testing.T, s string) api.Value {
	t.Helper()
	v, e := json.Parse(s)
	if e != api.OK {
		t.Fatal(s, e)
	}
	return v
}

func show(v api.Value) string {
	s, _ := canon.Print(v)
	return s
}

func id(c byte) string {
	b := make([]byte, 32)
	b[0] = c
	return "$" + base64.RawURLEncoding.EncodeToString(b)
}

func numbered(n int) []string {
	var l []string
	for i := range n {
		l = append(l, id(byte(i)))
	}
	return l
}

func draft(t *testing.T, content string) api.Event {
	return api.Event{Room: "!r:h", Sender: "@a:h", Type: "m.room.member", State: true, Key: "@a:h", Content: parse(t, content), Prev: []string{id(2), id(1)}, Auth: []string{id(1)}, Depth: 3, Time: 7}
}

func build(t *testing.T, e api.Event) api.Event {
	t.Helper()
	b, fault := Build(e, signer())
	if fault != api.OK {
		t.Fatal(fault)
	}
	return b
}

// P22.1 and P22.3: what is built, by the words.
func TestBuild(t *testing.T) {
	d := draft(t, `{"membership":"join","x":1}`)
	d.ID, d.Hash, d.Sigs = "any", "any", api.Value{Kind: 9}
	e := build(t, d)
	plain := `{"auth_events":["` + id(1) + `"],"content":{"membership":"join","x":1},"depth":3,"origin_server_ts":7,"prev_events":["` + id(2) + `","` + id(1) + `"],"room_id":"!r:h","sender":"@a:h","state_key":"@a:h","type":"m.room.member"}`
	sum := sha256.Sum256([]byte(plain))
	if e.Hash != base64.RawStdEncoding.EncodeToString(sum[:]) {
		t.Error(e.Hash)
	}
	left := strings.Replace(strings.Replace(plain, `,"x":1`, ``, 1), `"origin`, `"hashes":{"sha256":"`+e.Hash+`"},"origin`, 1)
	sum = sha256.Sum256([]byte(left))
	if e.ID != "$"+base64.RawURLEncoding.EncodeToString(sum[:]) {
		t.Error(e.ID)
	}
	s := edsig.Sign(signer().Seed, []byte(left))
	if show(e.Sigs) != `{"h":{"ed25519:0":"`+base64.RawStdEncoding.EncodeToString(s[:])+`"}}` {
		t.Error(show(e.Sigs))
	}
	key := edsig.Public(signer().Seed)
	if !Right(e) || Verify(e, signer(), key) != api.OK {
		t.Error("right, verified")
	}
	r, fault := Redact(e)
	if fault != api.OK || r.ID != e.ID || show(r.Content) != `{"membership":"join"}` || !Right(r) || Verify(r, signer(), key) != api.ErrReject || seal.Verify(object(r), "h", "ed25519:0", key) != api.OK {
		t.Error(r, fault)
	}
	if again, fault := Redact(r); fault != api.OK || !reflect.DeepEqual(again, r) {
		t.Error(again, fault)
	}
}

func TestBuildErrors(t *testing.T) {
	good := draft(t, `{}`)
	deep := api.Value{Kind: api.Object}
	for range 11 {
		deep = api.Value{Kind: api.Object, Names: []string{"a"}, Items: []api.Value{deep}}
	}
	for i, x := range []struct {
		change func(*api.Event)
		want   api.Errno
	}{
		{func(e *api.Event) {}, 0}, {func(e *api.Event) { e.Room = "@r:h" }, 1}, {func(e *api.Event) { e.Sender = "!a:h" }, 1}, {func(e *api.Event) { e.Type = "" }, 1}, {func(e *api.Event) { e.Type = strings.Repeat("t", 64) }, 0}, {func(e *api.Event) { e.Type = strings.Repeat("t", 65) }, 1}, {func(e *api.Event) { e.Type = "a b" }, 1},
		{func(e *api.Event) { e.Key = strings.Repeat("é", 127) + "x" }, 0}, {func(e *api.Event) { e.Key = strings.Repeat("é", 128) }, 1}, {func(e *api.Event) { e.Key = "\xff" }, 1}, {func(e *api.Event) { e.Key = "" }, 0}, {func(e *api.Event) { e.State = false }, 1}, {func(e *api.Event) { e.State, e.Key = false, "" }, 0},
		{func(e *api.Event) { e.Content = api.Value{} }, 1}, {func(e *api.Event) { e.Content = api.Value{Kind: api.List} }, 1}, {func(e *api.Event) { e.Content = api.Value{Kind: api.Object, Num: 1} }, 1}, {func(e *api.Event) { e.Content = deep }, 1}, {func(e *api.Event) { e.Content = deep.Items[0] }, 0},
		{func(e *api.Event) { e.Prev = numbered(20) }, 0}, {func(e *api.Event) { e.Prev = numbered(21) }, 1}, {func(e *api.Event) { e.Auth = numbered(10) }, 0}, {func(e *api.Event) { e.Auth = numbered(11) }, 1}, {func(e *api.Event) { e.Prev = []string{id(1), id(1)} }, 1}, {func(e *api.Event) { e.Auth = []string{"$x"} }, 1}, {func(e *api.Event) { e.Prev, e.Auth = nil, nil }, 0},
		{func(e *api.Event) { e.Depth, e.Time = 1, 0 }, 0}, {func(e *api.Event) { e.Depth = 0 }, 1}, {func(e *api.Event) { e.Depth = 1 << 40 }, 0}, {func(e *api.Event) { e.Depth = 1<<40 + 1 }, 1}, {func(e *api.Event) { e.Time = -1 }, 1}, {func(e *api.Event) { e.Time = 1 << 40 }, 0}, {func(e *api.Event) { e.Time = math.MaxInt }, 1},
	} {
		e := good
		x.change(&e)
		b, fault := Build(e, signer())
		if fault != x.want || fault != api.OK && !reflect.DeepEqual(b, api.Event{}) || fault == api.OK && (!Right(b) || Verify(b, signer(), edsig.Public(signer().Seed)) != api.OK) {
			t.Error(i, fault)
		}
	}
	for i, s := range []api.Signer{{Server: "h..x", Key: "ed25519:0"}, {Server: "h", Key: "0"}} {
		if b, fault := Build(good, s); fault != api.ErrArg || !reflect.DeepEqual(b, api.Event{}) {
			t.Error(i, fault)
		}
	}
}

// The longest text that may be, and one byte more.
func TestLong(t *testing.T) {
	d := draft(t, `{}`)
	long := func(n int) api.Event {
		e := d
		e.Content = api.Value{Kind: api.Object, Names: []string{"a"}, Items: []api.Value{tree.Text(strings.Repeat("x", n))}}
		return e
	}
	empty := build(t, long(0))
	room := api.MaxText - canon.Length(object(empty))
	full := build(t, long(room))
	if !Right(full) || canon.Length(object(full)) != api.MaxText {
		t.Error("full")
	}
	for _, more := range []int{1, 100, 9000} {
		if b, fault := Build(long(room+more), signer()); fault != api.ErrLong || !reflect.DeepEqual(b, api.Event{}) {
			t.Error(more, fault)
		}
	}
	if _, fault := Build(long(9000), api.Signer{}); fault != api.ErrLong {
		t.Error("Hashed errs ahead of Sign", fault)
	}
	if _, fault := Build(long(room+1), api.Signer{}); fault != api.ErrArg {
		t.Error("Sign errs ahead of the text", fault)
	}
	over := full
	over.Hash += "x"
	if _, fault := Object(over); fault != api.ErrArg || Right(over) {
		t.Error(fault)
	}
}

// P22.2: a right event's object is read as it was; nothing else is read.
func TestRead(t *testing.T) {
	for _, change := range []func(*api.Event){func(e *api.Event) {}, func(e *api.Event) { e.State, e.Key = false, "" }, func(e *api.Event) { e.Prev, e.Auth = nil, nil }, func(e *api.Event) { e.Key = "" }} {
		d := draft(t, `{"a":[1,{"b":null}]}`)
		change(&d)
		e := build(t, d)
		v, fault := Object(e)
		r, g := Read(v)
		if fault != api.OK || g != api.OK || !reflect.DeepEqual(r, e) || !json.Right(v) {
			t.Error(r, g)
		}
		e.ID = "another"
		if w, fault := Object(e); fault != api.OK || !json.Same(v, w) || Right(e) {
			t.Error(fault)
		}
	}
	v, _ := Object(build(t, draft(t, `{}`)))
	if _, fault := Read(v); fault != api.OK {
		t.Fatal(fault)
	}
	for _, name := range v.Names {
		w := json.Without(v, name)
		if e, fault := Read(w); name == "state_key" != (fault == api.OK) || fault != api.OK && (fault != api.ErrForm || !reflect.DeepEqual(e, api.Event{})) {
			t.Error(name, fault)
		}
		for _, s := range []string{`null`, `[1]`, `{"a":1}`, `-1`, `"x y"`} {
			if name == "content" && s == `{"a":1}` || name == "signatures" && s == `{"a":1}` || name == "state_key" && s == `"x y"` {
				continue
			}
			w, _ := json.With(v, name, parse(t, s))
			if _, fault := Read(w); fault != api.ErrForm {
				t.Error(name, s, fault)
			}
		}
	}
	for _, x := range [][2]string{{"unsigned", `{}`}, {"hashes", `{"md5":"","sha256":""}`}, {"hashes", `{"sha256":1}`}, {"prev_events", `{"a":"` + id(1) + `"}`}, {"state_key", `1`}} {
		w, _ := json.With(v, x[0], parse(t, x[1]))
		if _, fault := Read(w); fault != api.ErrForm {
			t.Error(x, fault)
		}
	}
	if _, fault := Read(api.Value{Kind: api.Object, Names: slices.Clone(v.Names), Items: v.Items[:3]}); fault != api.ErrForm {
		t.Error(fault)
	}
}

func TestVerify(t *testing.T) {
	e := build(t, draft(t, `{"membership":"join","x":1}`))
	key := edsig.Public(signer().Seed)
	other := signer()
	other.Server = "g"
	if Verify(e, other, key) != api.ErrSign || Verify(e, api.Signer{}, key) != api.ErrSign || Verify(e, signer(), edsig.Public([32]byte{})) != api.ErrSign {
		t.Error("another's")
	}
	wrong := e
	wrong.Depth++
	if Verify(wrong, signer(), key) != api.ErrArg {
		t.Error("another name")
	}
	if r, fault := Redact(wrong); fault != api.ErrArg || !reflect.DeepEqual(r, api.Event{}) {
		t.Error(fault)
	}
	unsigned := e
	unsigned.Sigs = api.Value{Kind: api.Object}
	if !Right(unsigned) || Verify(unsigned, signer(), key) != api.ErrSign {
		t.Error("unsigned")
	}
	list := e
	list.Sigs = api.Value{Kind: api.List}
	if Right(list) || Verify(list, signer(), key) != api.ErrArg {
		t.Error("signatures that are a list")
	}
	odd := e
	odd.Sigs = parse(t, `{"h":1}`)
	if !Right(odd) || Verify(odd, signer(), key) != api.ErrSign {
		t.Error("signatures of another kind")
	}
	more := e
	more.Content = parse(t, `{"membership":"join","x":2}`)
	if !Right(more) || Verify(more, signer(), key) != api.ErrReject {
		t.Error("content that was changed, but for what is left of it")
	}
}

func TestServer(t *testing.T) {
	for s, want := range map[string]string{"@a:h.org:1": "h.org:1", "@a:h": "h", "": "", "!a:h": "", "@A:h": ""} {
		if got := Server(api.Event{Sender: s}); got != want {
			t.Error(s, got)
		}
	}
}

func BenchmarkRight(b *testing.B) {
	e, _ := Build(api.Event{Room: "!r:h", Sender: "@a:h", Type: "m", Content: api.Value{Kind: api.Object}, Prev: numbered(3), Auth: numbered(4), Depth: 3}, signer())
	for b.Loop() {
		Right(e)
	}
}
