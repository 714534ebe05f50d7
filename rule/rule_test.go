package rule

import (
	"fmt"
	"math/rand"
	"reflect"
	"slices"
	"strconv"
	"strings"
	"testing"

	"vouchsafe/api"
	"vouchsafe/base"
	"vouchsafe/canon"
	"vouchsafe/edsig"
	"vouchsafe/event"
	"vouchsafe/json"
	"vouchsafe/seal"
)

func parse(t testing.TB, s string) api.Value {
	t.Helper()
	v, e := json.Parse(s)
	if e != api.OK {
		t.Fatal(s, e)
	}
	return v
}

// some is an event's name that follows nothing in particular.
var some = "$" + strings.Repeat("A", 43)

// ev builds an event of !r:h; one without "key:" ahead of its key has no State.
func ev(t testing.TB, sender, kind, key, content string, prev ...string) api.Event {
	t.Helper()
	name, state := strings.CutPrefix(key, "key:")
	e := api.Event{Room: "!r:h", Sender: sender, Type: kind, State: state, Key: name, Content: parse(t, content), Prev: prev, Depth: 1}
	b, fault := event.Build(e, api.Signer{Server: "h", Key: "ed25519:0"})
	if fault != api.OK {
		t.Fatal(fault)
	}
	return b
}

func member(t testing.TB, sender, key, membership string) api.Event {
	return ev(t, sender, ofMember, "key:"+key, `{"membership":"`+membership+`"}`, some)
}

func creation(t testing.TB) api.Event {
	return ev(t, "@c:h", ofCreation, "key:", `{"creator":"@c:h"}`)
}

func levels(t testing.TB, content string) api.Event {
	return ev(t, "@c:h", ofLevels, "key:", content, some)
}

type events = []api.Event

func judge(t *testing.T, name string, state events, e api.Event, may bool) {
	t.Helper()
	want := api.ErrAuth
	if may {
		want = api.OK
	}
	if got := Allowed(state, e); got != want {
		t.Errorf("%s: %d, not %d", name, got, want)
	}
	// P24.2: what isn't needed changes nothing.
	if e.Type != ofCreation {
		var needed events
		for _, s := range state {
			if slices.Contains(Needs(e), api.Slot{Type: s.Type, Key: s.Key}) {
				needed = append(needed, s)
			}
		}
		if got := Allowed(needed, e); got != want {
			t.Errorf("%s: by its needs %d, not %d", name, got, want)
		}
	}
}

func TestCreation(t *testing.T) {
	c := creation(t)
	judge(t, "creation", nil, c, true)
	judge(t, "not empty", events{c}, c, false)
	judge(t, "not empty of another", events{member(t, "@c:h", "@c:h", "join")}, c, false)
	judge(t, "prev", nil, ev(t, "@c:h", ofCreation, "key:", `{"creator":"@c:h"}`, some), false)
	judge(t, "key", nil, ev(t, "@c:h", ofCreation, "key:x", `{"creator":"@c:h"}`), false)
	judge(t, "no state", nil, ev(t, "@c:h", ofCreation, "", `{"creator":"@c:h"}`), false)
	judge(t, "another creator", nil, ev(t, "@c:h", ofCreation, "key:", `{"creator":"@d:h"}`), false)
	judge(t, "no creator", nil, ev(t, "@c:h", ofCreation, "key:", `{}`), false)
	judge(t, "another server", nil, ev(t, "@c:g", ofCreation, "key:", `{"creator":"@c:g"}`), false)
	judge(t, "no creation", nil, member(t, "@c:h", "@c:h", "join"), false)
	other := api.Event{Room: "!q:h", Sender: "@c:h", Type: ofMember, State: true, Key: "@c:h", Content: parse(t, `{"membership":"join"}`), Prev: []string{c.ID}, Depth: 2}
	other, _ = event.Build(other, api.Signer{Server: "h", Key: "ed25519:0"})
	judge(t, "another room", events{c}, other, false)
	if Needs(c) != nil {
		t.Error(Needs(c))
	}
}

func TestJoin(t *testing.T) {
	c := creation(t)
	first := ev(t, "@c:h", ofMember, "key:@c:h", `{"membership":"join"}`, c.ID)
	judge(t, "the creator's first", events{c}, first, true)
	judge(t, "another's first", events{c}, ev(t, "@d:h", ofMember, "key:@d:h", `{"membership":"join"}`, c.ID), false)
	judge(t, "the creator's later", events{c}, ev(t, "@c:h", ofMember, "key:@c:h", `{"membership":"join"}`, some), false)
	judge(t, "behind the creation and another", events{c}, ev(t, "@c:h", ofMember, "key:@c:h", `{"membership":"join"}`, c.ID, some), false)
	judge(t, "the creator for another", events{c}, ev(t, "@c:h", ofMember, "key:@d:h", `{"membership":"join"}`, c.ID), false)
	judge(t, "no state", events{c}, ev(t, "@c:h", ofMember, "", `{"membership":"join"}`, c.ID), false)
	judge(t, "no user", events{c}, ev(t, "@c:h", ofMember, "key:c", `{"membership":"join"}`, c.ID), false)
	mine := member(t, "@d:h", "@d:h", "join")
	for m, may := range map[string]bool{"join": true, "invite": true, "leave": false, "ban": false, "knock": false} {
		judge(t, m, events{c, member(t, "@c:h", "@d:h", m)}, mine, may)
		judge(t, m+" of another", events{c, member(t, "@c:h", "@e:h", m)}, mine, false)
		public := ev(t, "@c:h", ofJoins, "key:", `{"join_rule":"public"}`, some)
		judge(t, m+" in public", events{c, public, member(t, "@c:h", "@d:h", m)}, mine, m != "ban")
		judge(t, m+" as another", events{c, public, member(t, "@c:h", "@d:h", m)}, member(t, "@e:h", "@d:h", "join"), false)
	}
	for _, r := range []string{`{"join_rule":"invite"}`, `{"join_rule":1}`, `{}`} {
		judge(t, r, events{c, ev(t, "@c:h", ofJoins, "key:", r, some)}, mine, false)
	}
	judge(t, "another key's rule", events{c, ev(t, "@c:h", ofJoins, "key:x", `{"join_rule":"public"}`, some)}, mine, false)
	for _, m := range []string{`{"membership":"knock"}`, `{}`, `{"membership":1}`} {
		judge(t, m, events{c, mine}, ev(t, "@d:h", ofMember, "key:@d:h", m, some), false)
	}
}

// room is a creation, members, and levels.
func room(t testing.TB, content string, more ...api.Event) events {
	l := events{creation(t), member(t, "@c:h", "@c:h", "join"), member(t, "@d:h", "@d:h", "join"), member(t, "@e:h", "@e:h", "join")}
	if content != "" {
		l = append(l, levels(t, content))
	}
	return append(l, more...)
}

func TestInviteLeaveBan(t *testing.T) {
	const content = `{"users":{"@c:h":100,"@d:h":50,"@e:h":10},"invite":10,"kick":40,"ban":60}`
	x := "@x:h"
	for i, y := range []struct {
		levels, was        string
		sender, membership string
		may                bool
	}{
		{content, "", "@e:h", "invite", true}, {content, "leave", "@e:h", "invite", true}, {content, "invite", "@e:h", "invite", true}, {content, "join", "@e:h", "invite", false}, {content, "ban", "@c:h", "invite", false}, {content, "", "@z:h", "invite", false},
		{`{"users":{"@e:h":9},"invite":10}`, "", "@e:h", "invite", false}, {"", "", "@e:h", "invite", true}, {`{}`, "", "@e:h", "invite", true},
		{content, "join", "@d:h", "leave", true}, {content, "invite", "@d:h", "leave", true}, {content, "", "@d:h", "leave", true}, {content, "leave", "@d:h", "leave", true}, {content, "ban", "@d:h", "leave", false}, {content, "ban", "@c:h", "leave", true}, {content, "join", "@e:h", "leave", false}, {content, "join", "@z:h", "leave", false},
		{content, "join", x, "leave", true}, {content, "invite", x, "leave", true}, {content, "", x, "leave", false}, {content, "leave", x, "leave", false}, {content, "ban", x, "leave", false},
		{content, "join", "@c:h", "ban", true}, {content, "", "@c:h", "ban", true}, {content, "ban", "@c:h", "ban", true}, {content, "join", "@d:h", "ban", false}, {content, "join", x, "ban", false},
		{`{"users":{"@d:h":50,"@x:h":50},"ban":50,"kick":50}`, "join", "@d:h", "ban", false}, {`{"users":{"@d:h":50,"@x:h":50},"ban":50,"kick":50}`, "join", "@d:h", "leave", false}, {`{"users":{"@d:h":50,"@x:h":49},"ban":50,"kick":50}`, "join", "@d:h", "ban", true}, {`{"users":{"@d:h":50,"@x:h":49}}`, "join", "@d:h", "leave", true}, {`{"users":{"@d:h":49}}`, "join", "@d:h", "leave", false}, {`{"users":{"@d:h":49}}`, "join", "@d:h", "ban", false},
		{"", "join", "@c:h", "ban", true}, {"", "join", "@d:h", "ban", false}, {"", "join", "@c:h", "leave", true}, {`{"users_default":60}`, "join", "@d:h", "ban", false}, {`{"users_default":60,"users":{"@x:h":1}}`, "join", "@d:h", "ban", true},
	} {
		state := room(t, y.levels)
		if y.was != "" {
			state = append(state, member(t, "@c:h", x, y.was))
		}
		judge(t, fmt.Sprint(i, y), state, member(t, y.sender, x, y.membership), y.may)
	}
}

func TestOthers(t *testing.T) {
	const content = `{"users":{"@c:h":100,"@d:h":50,"@e:h":10},"events":{"note":20,"rule":30},"state_default":40,"events_default":5}`
	for i, y := range []struct {
		levels string
		e      api.Event
		may    bool
	}{
		{content, ev(t, "@e:h", "m", "", `{}`, some), true}, {content, ev(t, "@z:h", "m", "", `{}`, some), false}, {content, ev(t, "@e:h", "note", "", `{}`, some), false}, {content, ev(t, "@d:h", "note", "", `{}`, some), true},
		{content, ev(t, "@d:h", "m", "key:", `{}`, some), true}, {content, ev(t, "@e:h", "m", "key:", `{}`, some), false}, {content, ev(t, "@d:h", "rule", "key:", `{}`, some), true}, {content, ev(t, "@e:h", "rule", "key:", `{}`, some), false},
		{`{"users":{"@d:h":49}}`, ev(t, "@d:h", "m", "key:", `{}`, some), false}, {`{"users":{"@d:h":50}}`, ev(t, "@d:h", "m", "key:", `{}`, some), true}, {`{"events_default":1}`, ev(t, "@e:h", "m", "", `{}`, some), false}, {`{}`, ev(t, "@e:h", "m", "", `{}`, some), true}, {`{"users_default":-1}`, ev(t, "@e:h", "m", "", `{}`, some), false},
		{"", ev(t, "@e:h", "m", "key:", `{}`, some), true}, {"", ev(t, "@e:h", "m", "", `{}`, some), true}, {"", ev(t, "@z:h", "m", "", `{}`, some), false},
		{content, ev(t, "@c:h", "m", "key:@c:h", `{}`, some), true}, {content, ev(t, "@c:h", "m", "key:@d:h", `{}`, some), false}, {content, ev(t, "@c:h", "m", "key:@", `{}`, some), false}, {content, ev(t, "@c:h", "m", "key:c:h", `{}`, some), true},
		{`{"users":{"@d:h":10},"invite":10}`, ev(t, "@d:h", ofThird, "key:@tok", `{}`, some), true}, {`{"users":{"@d:h":9},"invite":10}`, ev(t, "@d:h", ofThird, "key:tok", `{}`, some), false}, {`{"users":{"@d:h":10},"invite":10}`, ev(t, "@d:h", ofThird, "", `{}`, some), false}, {"", ev(t, "@d:h", ofThird, "key:tok", `{}`, some), true}, {"", ev(t, "@z:h", ofThird, "key:tok", `{}`, some), false},
		{`{"events":{"m.room.third_party_invite":99}}`, ev(t, "@d:h", ofThird, "key:tok", `{}`, some), true},
	} {
		judge(t, fmt.Sprint(i), room(t, y.levels), y.e, y.may)
	}
	judge(t, "a creation later", room(t, ""), ev(t, "@c:h", ofCreation, "key:x", `{"creator":"@c:h"}`, some), false)
}

func TestLevels(t *testing.T) {
	const old = `{"users":{"@c:h":60,"@d:h":50,"@e:h":60,"@f:h":70,"@l:h":59},"events":{"high":70,"low":10,"m.room.power_levels":20},"kick":70,"invite":10}`
	for i, y := range []struct {
		levels, next string
		may          bool
	}{
		{old, old, true}, {"", `{}`, true}, {"", `{"users":{"@x:h":1000},"ban":1000}`, true},
		{old, strings.Replace(old, `"@d:h":50`, `"@d:h":60`, 1), true}, {old, strings.Replace(old, `"@d:h":50`, `"@d:h":61`, 1), false}, {old, strings.Replace(old, `"@d:h":50,`, ``, 1), true},
		{old, strings.Replace(old, `"@l:h":59`, `"@l:h":1`, 1), true}, {old, strings.Replace(old, `"@e:h":60`, `"@e:h":59`, 1), false}, {old, strings.Replace(old, `"@e:h":60,`, ``, 1), false}, {old, strings.Replace(old, `"@c:h":60`, `"@c:h":1`, 1), true}, {old, strings.Replace(old, `"@c:h":60,`, ``, 1), true}, {old, strings.Replace(old, `"@c:h":60`, `"@c:h":61`, 1), false}, {old, strings.Replace(old, `"@f:h":70`, `"@f:h":1`, 1), false},
		{old, strings.Replace(old, `"@d:h":50`, `"@d:h":50,"@g:h":60`, 1), true}, {old, strings.Replace(old, `"@d:h":50`, `"@d:h":50,"@g:h":61`, 1), false},
		{old, strings.Replace(old, `"low":10`, `"low":60`, 1), true}, {old, strings.Replace(old, `"low":10`, `"low":61`, 1), false}, {old, strings.Replace(old, `"low":10,`, ``, 1), true}, {old, strings.Replace(old, `"high":70`, `"high":1`, 1), false}, {old, strings.Replace(old, `"high":70,`, ``, 1), false}, {old, strings.Replace(old, `"low"`, `"new":61,"low"`, 1), false}, {old, strings.Replace(old, `"low"`, `"new":60,"low"`, 1), true},
		{old, strings.Replace(old, `"kick":70`, `"kick":50`, 1), false}, {old, strings.Replace(old, `,"invite":10`, ``, 1), true}, {old, strings.Replace(old, `"invite":10`, `"invite":61`, 1), false}, {old, strings.Replace(old, `"invite":10`, `"invite":10,"ban":50`, 1), true}, {old, strings.Replace(old, `"invite":10`, `"invite":10,"ban":61`, 1), false}, {old, strings.Replace(old, `"invite":10`, `"invite":10,"redact":60`, 1), true},
		{old, strings.Replace(old, `"invite":10`, `"invite":10,"users_default":0,"events_default":0,"state_default":50`, 1), true}, {old, strings.Replace(old, `"invite":10`, `"invite":10,"users_default":61`, 1), false}, {old, strings.Replace(old, `"invite":10`, `"invite":10,"state_default":61`, 1), false}, {old, strings.Replace(old, `"invite":10`, `"invite":10,"events_default":61`, 1), false},
		{old, `{"users":[]}`, false}, {"", `{"users":[]}`, false}, {"", `{"users":{"x":1}}`, false}, {"", `{"users":{"@x:h":"1"}}`, false}, {"", `{"events":1}`, false}, {"", `{"events":{"":1}}`, true}, {"", `{"events":{"m":null}}`, false}, {"", `{"ban":"1"}`, false}, {"", `{"invite":null}`, false}, {"", `{"users_default":[]}`, false}, {"", `{"redact":{}}`, false}, {"", `{"other":"x"}`, true},
	} {
		judge(t, fmt.Sprint(i, y), room(t, y.levels), levels(t, y.next), y.may)
	}
	odd := ev(t, "@c:h", ofLevels, "key:", `{"users":{"@c:h":60,"@d:h":"x"},"events":[1],"ban":"x"}`, some)
	judge(t, "what isn't a number isn't there", room(t, "", odd), levels(t, `{"users":{"@c:h":60,"@d:h":60},"events":{"a":60},"ban":50}`), true)
	judge(t, "what isn't a number isn't there, but what comes counts", room(t, "", odd), levels(t, `{"users":{"@c:h":60,"@d:h":61}}`), false)
	judge(t, "a key", room(t, ""), ev(t, "@c:h", ofLevels, "key:x", `{}`, some), false)
	judge(t, "no state", room(t, ""), ev(t, "@c:h", ofLevels, "", `{}`, some), false)
}

func seed(s string) [32]byte { return edsig.Seed(s) }

func letters(s string) string {
	k := edsig.Public(seed(s))
	return base.Encode(k[:])
}

func show(v api.Value) string {
	s, _ := canon.Print(v)
	return s
}

// P24.3: a third-party block holds just as the words say.
func TestBlock(t *testing.T) {
	signed := func(content string, by ...string) string {
		v := parse(t, content)
		for _, s := range by {
			v, _ = seal.Sign(v, s, "ed25519:0", seed(s))
		}
		return show(v)
	}
	const good = `{"mxid":"@x:g","sender":"@d:h","token":"tok"}`
	block := signed(good, "id")
	third := func(sender, content string) api.Event {
		return ev(t, sender, ofThird, "key:tok", content, some)
	}
	inv := func(sender, inside string) api.Event {
		return ev(t, sender, ofMember, "key:@x:g", `{"membership":"invite","third_party_invite":`+inside+`}`, some)
	}
	key := func(s string) string { return `{"public_key":"` + letters(s) + `"}` }
	for i, y := range []struct {
		third  api.Event
		e      api.Event
		member string
		may    bool
	}{
		{third("@d:h", key("id")), inv("@d:h", `{"signed":`+block+`}`), "", true},
		{third("@d:h", key("id")), inv("@d:h", `{"signed":`+block+`,"x":1}`), "leave", true},
		{third("@d:h", key("id")), inv("@d:h", `{"signed":`+block+`}`), "join", true},
		{third("@d:h", key("id")), inv("@d:h", `{"signed":`+block+`}`), "ban", false},
		{third("@c:h", key("id")), inv("@d:h", `{"signed":`+block+`}`), "", false},
		{third("@d:h", key("other")), inv("@d:h", `{"signed":`+block+`}`), "", false},
		{third("@d:h", `{}`), inv("@d:h", `{"signed":`+block+`}`), "", false},
		{third("@d:h", `{"public_key":"x","public_keys":[1,`+key("other")+`,{},`+key("id")+`]}`), inv("@d:h", `{"signed":`+block+`}`), "", true},
		{third("@d:h", `{"public_key":"`+letters("a")+`","public_keys":[`+key("b")+`,{"public_key":"="},`+key("c")+`,`+key("id")+`]}`), inv("@d:h", `{"signed":`+block+`}`), "", true},
		{third("@d:h", `{"public_key":"`+letters("a")+`","public_keys":[`+key("b")+`,`+key("c")+`,`+key("d")+`,`+key("id")+`]}`), inv("@d:h", `{"signed":`+block+`}`), "", false},
		{third("@d:h", `{"public_keys":`+key("id")+`}`), inv("@d:h", `{"signed":`+block+`}`), "", false},
		{third("@d:h", key("id")), inv("@d:h", `{"signed":`+signed(good, "other")+`}`), "", false},
		{third("@d:h", key("id")), inv("@d:h", `{"signed":`+signed(good, "a", "id", "z")+`}`), "", true},
		{third("@d:h", key("id")), inv("@d:h", `{"signed":`+good+`}`), "", false},
		{third("@d:h", key("id")), inv("@d:h", `{"signed":`+strings.Replace(block, "@d:h", "@e:h", 1)+`}`), "", false},
		{third("@d:h", key("id")), inv("@d:h", `{"signed":`+signed(strings.Replace(good, "tok", "tik", 1), "id")+`}`), "", false},
		{third("@d:h", key("id")), inv("@d:h", `{"signed":`+signed(strings.Replace(good, "@x:g", "@y:g", 1), "id")+`}`), "", false},
		{third("@d:h", key("id")), inv("@d:h", `{"signed":`+signed(`{"token":"tok"}`, "id")+`}`), "", false},
		{third("@d:h", key("id")), inv("@d:h", `{"signed":`+signed(`{"mxid":"@x:g","token":"tok"}`, "id")+`}`), "", true},
		{third("@d:h", key("id")), inv("@d:h", `{"signed":[]}`), "", false}, {third("@d:h", key("id")), inv("@d:h", `{}`), "", false}, {third("@d:h", key("id")), inv("@d:h", `null`), "", false},
		{third("@z:z", key("id")), inv("@z:z", `{"signed":`+block+`}`), "", true},
	} {
		state := room(t, `{"invite":1000}`, y.third)
		if y.member != "" {
			state = append(state, member(t, "@c:h", "@x:g", y.member))
		}
		judge(t, fmt.Sprint(i), state, y.e, y.may)
	}
	judge(t, "no invite of the token", room(t, ""), inv("@d:h", `{"signed":`+block+`}`), false)
}

func TestNeeds(t *testing.T) {
	slot := func(kind, key string) api.Slot { return api.Slot{Type: kind, Key: key} }
	c, p, j := slot(ofCreation, ""), slot(ofLevels, ""), slot(ofJoins, "")
	m := func(u string) api.Slot { return slot(ofMember, u) }
	const third = `{"membership":"invite","third_party_invite":{"signed":{"token":"tok"}}}`
	for i, y := range []struct {
		e    api.Event
		want []api.Slot
	}{
		{ev(t, "@d:h", "m", "", `{}`, some), []api.Slot{c, m("@d:h"), p}},
		{ev(t, "@d:h", "m", "key:", third, some), []api.Slot{c, m("@d:h"), p}},
		{member(t, "@d:h", "@d:h", "leave"), []api.Slot{c, m("@d:h"), p}},
		{member(t, "@d:h", "@a:h", "ban"), []api.Slot{c, m("@a:h"), m("@d:h"), p}},
		{member(t, "@d:h", "@d:h", "join"), []api.Slot{c, j, m("@d:h"), p}},
		{member(t, "@d:h", "@e:h", "invite"), []api.Slot{c, j, m("@d:h"), m("@e:h"), p}},
		{ev(t, "@d:h", ofMember, "key:@e:h", third, some), []api.Slot{c, j, m("@d:h"), m("@e:h"), p, slot(ofThird, "tok")}},
		{ev(t, "@d:h", ofMember, "key:@e:h", strings.Replace(third, "invite", "leave", 1), some), []api.Slot{c, m("@d:h"), m("@e:h"), p, slot(ofThird, "tok")}},
		{ev(t, "@d:h", ofMember, "key:@e:h", strings.Replace(third, `"tok"`, `1`, 1), some), []api.Slot{c, j, m("@d:h"), m("@e:h"), p}},
		{api.Event{}, []api.Slot{c, m(""), p}}, {api.Event{Type: ofCreation}, nil},
	} {
		if got := Needs(y.e); !slices.Equal(got, y.want) {
			t.Error(i, got)
		}
	}
}

func TestWrong(t *testing.T) {
	good := room(t, `{}`)
	e := ev(t, "@d:h", "m", "", `{}`, some)
	broken := e
	broken.ID = some
	if Allowed(good, broken) != api.ErrArg || Allowed(good, api.Event{}) != api.ErrArg {
		t.Error("event")
	}
	for i, l := range []events{append(slices.Clone(good), e), append(slices.Clone(good), good[0]), append(slices.Clone(good), api.Event{State: true}), append(slices.Clone(good), creation(t)), make(events, 129)} {
		if State(l) || Allowed(l, e) != api.ErrArg {
			t.Error(i)
		}
	}
	var many events
	for i := range 129 {
		many = append(many, ev(t, "@a:h", "m", "key:"+strconv.Itoa(i), `{}`))
	}
	if !State(nil) || !State(good) || !State(many[:128]) || State(many) || Allowed(many, e) != api.ErrArg {
		t.Error("state")
	}
}

// Of any list the first event of a slot counts.
func TestAnyList(t *testing.T) {
	odd := api.Event{State: true, Type: ofMember, Key: "@a:h", Content: api.Value{Kind: api.Object, Names: []string{"membership", "x"}, Items: []api.Value{{Kind: api.Text, Text: "odd"}}}}
	number := odd
	number.Key, number.Content = "@n:h", api.Value{Kind: api.Object, Names: []string{"membership"}, Items: []api.Value{{Kind: api.Number, Text: "odd"}}}
	if Membership(events{number}, "@n:h") != "" {
		t.Error("no text")
	}
	plain := odd
	plain.State = false
	l := events{plain, odd, member(t, "@a:h", "@a:h", "join")}
	if e, ok := At(l, api.Slot{Type: ofMember, Key: "@a:h"}); !ok || !reflect.DeepEqual(e, odd) {
		t.Error(e)
	}
	if e, ok := At(l, api.Slot{Type: ofMember}); ok || !reflect.DeepEqual(e, api.Event{}) {
		t.Error(e)
	}
	if Membership(l, "@a:h") != "odd" || Membership(l, "@b:h") != "" || Membership(nil, "") != "" {
		t.Error("membership")
	}
	for i, y := range []struct {
		l    events
		user string
		want int
	}{
		{nil, "@c:h", 0}, {events{creation(t)}, "@c:h", 100}, {events{creation(t)}, "@d:h", 0}, {events{creation(t), levels(t, `{}`)}, "@c:h", 0}, {events{levels(t, `{"users":{"@d:h":-3},"users_default":7}`)}, "@d:h", -3}, {events{levels(t, `{"users":{"@d:h":"3"},"users_default":7}`)}, "@d:h", 7}, {events{levels(t, `{"users":[],"users_default":"7"}`)}, "@d:h", 0},
		{events{{State: true, Type: ofCreation, Content: api.Value{Kind: api.Object, Names: []string{"creator"}}}}, "", 0},
	} {
		if got := Level(y.l, y.user); got != y.want {
			t.Error(i, got)
		}
	}
}

// P24.2, at random: an event may be by a state just if it may by those at its needs.
func TestNeedsAlone(t *testing.T) {
	rnd := rand.New(rand.NewSource(24))
	users := []string{"@c:h", "@d:h", "@e:h", "@x:h"}
	memberships := []string{"join", "invite", "leave", "ban"}
	may := 0
	for range 250 {
		state := events{creation(t)}
		for _, u := range users {
			if rnd.Intn(4) > 0 {
				state = append(state, member(t, "@c:h", u, memberships[rnd.Intn(4)]))
			}
		}
		if rnd.Intn(2) == 0 {
			state = append(state, levels(t, `{"users":{"@c:h":100,"@d:h":50},"events":{"m":50}}`))
		}
		if rnd.Intn(2) == 0 {
			state = append(state, ev(t, "@c:h", ofJoins, "key:", `{"join_rule":"public"}`, some))
		}
		e := member(t, users[rnd.Intn(4)], users[rnd.Intn(4)], memberships[rnd.Intn(4)])
		if rnd.Intn(3) == 0 {
			e = ev(t, users[rnd.Intn(4)], "m", "key:", `{}`, some)
		}
		needs := Needs(e)
		by := slices.DeleteFunc(slices.Clone(state), func(s api.Event) bool { return !slices.Contains(needs, api.Slot{Type: s.Type, Key: s.Key}) })
		a := Allowed(state, e)
		if b := Allowed(by, e); a != b {
			t.Fatal(a, b)
		}
		if a == api.OK {
			may++
		}
	}
	if may < 20 || may > 230 {
		t.Error(may)
	}
}
