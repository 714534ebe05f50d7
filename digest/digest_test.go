package digest

import (
	"crypto/sha256"
	"encoding/base64"
	"strings"
	"testing"

	"vouchsafe/api"
	"vouchsafe/canon"
	"vouchsafe/json"
)

func parse(t *testing.T, s string) api.Value {
	t.Helper()
	v, e := json.Parse(s)
	if e != api.OK {
		t.Fatal(s, e)
	}
	return v
}

func show(v api.Value) string {
	s, _ := canon.Print(v)
	return s
}

// P13.1: what is kept of each type.
func TestRedact(t *testing.T) {
	all := `"ban":1,"creator":2,"events":3,"events_default":4,"history_visibility":5,"invite":6,"join_rule":7,"kick":8,"membership":9,"redact":10,"state_default":11,"third_party_invite":12,"users":13,"users_default":14`
	for kind, want := range map[string]string{
		`"m.room.create"`: `"creator":2`, `"m.room.member"`: `"membership":9`, `"m.room.join_rules"`: `"join_rule":7`, `"m.room.history_visibility"`: `"history_visibility":5`,
		`"m.room.power_levels"`: `"ban":1,"events":3,"events_default":4,"invite":6,"kick":8,"redact":10,"state_default":11,"users":13,"users_default":14`,
		`"m.room.message"`:      ``, `""`: ``, `7`: ``, `["m.room.member"]`: ``, `"m.room.member "`: ``,
	} {
		v := parse(t, `{"content":{`+all+`},"type":`+kind+`}`)
		w, e := Redact(v)
		if e != api.OK || show(w) != `{"content":{`+want+`},"type":`+kind+`}` {
			t.Error(kind, show(w), e)
		}
	}
	v := parse(t, `{"auth_events":1,"content":["membership"],"depth":2,"event_id":"x","hashes":3,"membership":"join","origin":4,"origin_server_ts":5,"prev_events":6,"prev_state":7,"redacts":8,"room_id":9,"sender":10,"signatures":11,"state_key":12,"type":"m.room.member","unsigned":13}`)
	w, e := Redact(v)
	if e != api.OK || show(w) != `{"auth_events":1,"content":["membership"],"depth":2,"hashes":3,"origin_server_ts":5,"prev_events":6,"room_id":9,"sender":10,"signatures":11,"state_key":12,"type":"m.room.member"}` {
		t.Error(show(w), e)
	}
	if w, e := Redact(parse(t, `{"content":{"membership":1}}`)); e != api.OK || show(w) != `{"content":{}}` {
		t.Error(show(w), e)
	}
	if w, e := Redact(parse(t, `{"type":"m.room.member","content":{"membership":"join","x":1},"y":2}`)); e != api.OK || show(w) != `{"content":{"membership":"join"},"type":"m.room.member"}` {
		t.Error(show(w), e)
	}
	if w, e := Redact(parse(t, `{}`)); e != api.OK || show(w) != `{}` {
		t.Error(show(w), e)
	}
}

func TestSums(t *testing.T) {
	v := parse(t, `{"type":"m.room.member","content":{"membership":"join","x":1},"y":2,"hashes":{"a":1},"signatures":{"h":{}},"unsigned":{"z":1}}`)
	if s, e := Content(v); e != api.OK || s != sha256.Sum256([]byte(`{"content":{"membership":"join","x":1},"type":"m.room.member","y":2}`)) {
		t.Error(s, e)
	}
	want := sha256.Sum256([]byte(`{"content":{"membership":"join"},"hashes":{"a":1},"type":"m.room.member"}`))
	if s, e := Reference(v); e != api.OK || s != want {
		t.Error(s, e)
	}
	if s, e := Name(v); e != api.OK || s != "$"+base64.RawURLEncoding.EncodeToString(want[:]) {
		t.Error(s, e)
	}
}

// P13.2: redacted, signed or told otherwise in unsigned, an object has the same name.
func TestSameName(t *testing.T) {
	v := parse(t, `{"type":"m.room.power_levels","content":{"users":{"@a:h":1},"x":{}},"hashes":{"sha256":"x"},"other":[1]}`)
	name, _ := Name(v)
	content, _ := Content(v)
	left, _ := Redact(v)
	if n, e := Name(left); e != api.OK || n != name {
		t.Error(n, e)
	}
	if again, e := Redact(left); e != api.OK || !json.Same(again, left) {
		t.Error(show(again), e)
	}
	for _, item := range []string{"signatures", "unsigned"} {
		w, _ := json.With(v, item, parse(t, `{"h":{"k":"x"}}`))
		n, e := Name(w)
		c, f := Content(w)
		if e != api.OK || f != api.OK || n != name || c != content {
			t.Error(item, n, e, f)
		}
	}
	for _, item := range []string{"hashes", "type", "depth"} {
		w, _ := json.With(v, item, parse(t, `"changed"`))
		if n, _ := Name(w); n == name {
			t.Error(item)
		}
	}
}

// P13.3: what is hashed fits.
func TestHashed(t *testing.T) {
	for _, s := range []string{`{}`, `{"a":1}`, `{"hashes":7,"b":{"c":[1]}}`, `{"a":` + strings.Repeat("[", 11) + strings.Repeat("]", 11) + `}`} {
		v := parse(t, s)
		h, e := Hashed(v)
		sum, _ := Content(v)
		want := `{"sha256":"` + base64.RawStdEncoding.EncodeToString(sum[:]) + `"}`
		got, _ := json.Get(h, "hashes")
		if e != api.OK || show(got) != want || !Fits(h) || Fits(v) {
			t.Error(s, show(h), e)
		}
		more, _ := json.With(got, "md5", parse(t, `1`))
		beside, _ := json.With(h, "hashes", more)
		if !Fits(beside) {
			t.Error(show(beside))
		}
		stranger, _ := json.With(h, "stranger", parse(t, `1`))
		unsigned, _ := json.With(h, "unsigned", parse(t, `1`))
		if Fits(stranger) || !Fits(unsigned) {
			t.Error(show(h))
		}
		for _, wrong := range []string{`{"sha256":1}`, `{"sha256":""}`, `{}`, `null`, want[:len(want)-2] + `="}`, `["sha256"]`} {
			if w, _ := json.With(h, "hashes", parse(t, wrong)); Fits(w) {
				t.Error(show(w))
			}
		}
	}
}

func TestWrong(t *testing.T) {
	long := api.Value{Kind: api.Object, Names: []string{"a", "type"}, Items: []api.Value{{Kind: api.Text, Text: strings.Repeat("x", 9000)}, {Kind: api.Text, Text: "t"}}}
	for _, v := range []api.Value{{}, {Kind: api.List}, {Kind: api.Object, Names: []string{"b", "a"}, Items: make([]api.Value, 2)}, {Kind: api.Object, Names: []string{"a"}}} {
		r, e1 := Redact(v)
		c, e2 := Content(v)
		f, e3 := Reference(v)
		n, e4 := Name(v)
		h, e5 := Hashed(v)
		for _, e := range []api.Errno{e1, e2, e3, e4, e5} {
			if e != api.ErrArg {
				t.Error(v, e)
			}
		}
		if !json.Same(r, api.Value{}) || c != [32]byte{} || f != [32]byte{} || n != "" || !json.Same(h, api.Value{}) || Fits(v) {
			t.Error(v)
		}
	}
	if c, e := Content(long); e != api.ErrLong || c != [32]byte{} {
		t.Error(e)
	}
	if _, e := Hashed(long); e != api.ErrLong || Fits(long) {
		t.Error(e)
	}
	if _, e := Name(long); e != api.OK {
		t.Error("what is left isn't long", e)
	}
	long.Names[0] = "sender"
	long.Names[1] = "type"
	if n, e := Name(long); e != api.ErrLong || n != "" {
		t.Error(e)
	}
	if f, e := Reference(long); e != api.ErrLong || f != [32]byte{} {
		t.Error(e)
	}
}
