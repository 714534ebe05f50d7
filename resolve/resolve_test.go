package resolve

import (
	"math/rand"
	"reflect"
	"slices"
	"strconv"
	"strings"
	"testing"

	"vouchsafe/api"
	"vouchsafe/edsig"
	"vouchsafe/event"
	"vouchsafe/graph"
	"vouchsafe/json"
	"vouchsafe/rule"
)

// book is a graph under way; its events are known by short words.
type book struct {
	t    testing.TB
	g    []api.Event
	word map[string]string
}

func (b *book) ids(words string) []string {
	var l []string
	for _, w := range strings.Fields(words) {
		id, ok := b.word[w]
		if !ok {
			b.t.Fatal("no event", w)
		}
		l = append(l, id)
	}
	return l
}

func (b *book) words(ids []string) string {
	var l []string
	for _, id := range ids {
		for w, i := range b.word {
			if i == id {
				l = append(l, w)
			}
		}
	}
	return strings.Join(l, " ")
}

func (b *book) find(id string) api.Event {
	return b.g[slices.IndexFunc(b.g, func(e api.Event) bool { return e.ID == id })]
}

// add builds an event: "-" as key is none.
func (b *book) add(word, sender, kind, key, content, prev, auth string, time int) {
	b.t.Helper()
	v, e := json.Parse(content)
	if e != api.OK {
		b.t.Fatal(content)
	}
	p := b.ids(prev)
	x := api.Event{Room: "!r:h", Sender: sender, Type: kind, State: key != "-", Key: strings.TrimPrefix(key, "-"), Content: v, Prev: p, Auth: b.ids(auth), Depth: graph.Depth(b.g, p...), Time: time}
	x, e = event.Build(x, api.Signer{Server: "h", Key: "ed25519:0", Seed: edsig.Seed("h")})
	if e != api.OK {
		b.t.Fatal(word, e)
	}
	if b.g, e = graph.Add(b.g, x); e != api.OK {
		b.t.Fatal(word, e)
	}
	b.word[word] = x.ID
}

const (
	join  = `{"membership":"join"}`
	ban   = `{"membership":"ban"}`
	leave = `{"membership":"leave"}`
)

// begin is a public room of anna (100), bert (50) and carl (50).
func begin(t testing.TB) *book {
	b := &book{t: t, word: map[string]string{}}
	b.add("C", "@a:h", "m.room.create", "", `{"creator":"@a:h"}`, "", "", 1)
	b.add("A", "@a:h", "m.room.member", "@a:h", join, "C", "C", 2)
	b.add("P", "@a:h", "m.room.power_levels", "", `{"users":{"@a:h":100,"@b:h":50,"@c:h":50}}`, "A", "C A", 3)
	b.add("J", "@a:h", "m.room.join_rules", "", `{"join_rule":"public"}`, "P", "C A P", 4)
	b.add("B", "@b:h", "m.room.member", "@b:h", join, "J", "C P J", 5)
	b.add("K", "@c:h", "m.room.member", "@c:h", join, "B", "C P J", 6)
	return b
}

func (b *book) resolve(want string, sets ...string) {
	b.t.Helper()
	var l [][]string
	for _, s := range sets {
		l = append(l, b.ids(s))
	}
	got, e := Resolve(b.g, l)
	if e != api.OK || b.words(got) != want {
		b.t.Errorf("%v: %s, not %s (%d)", sets, b.words(got), want, e)
	}
}

// The example: one bans another one, who sets the topic elsewhere.
func TestBanAndTopic(t *testing.T) {
	b := begin(t)
	b.add("ban", "@a:h", "m.room.member", "@b:h", ban, "K", "C A P B", 9)
	b.add("T", "@b:h", "m.room.topic", "", `{"topic":"x"}`, "K", "C P B", 7)
	b.resolve("C J A ban K P", "C A P J ban K", "C A P J B K T")
	b.resolve("C J A ban K P", "C A P J B K T", "C A P J ban K", "C A P J B K T")
	b.resolve("C J A B K P T", "C A P J B K T")
	b.resolve("", "")
	b.resolve("")
	b.resolve("C J A ban K P", "C A P J ban K")
}

// Two with the same level: the earlier change of levels is tried first; what it takes away doesn't hold behind it.
func TestPower(t *testing.T) {
	b := begin(t)
	b.add("Pb", "@b:h", "m.room.power_levels", "", `{"users":{"@a:h":100,"@b:h":50,"@c:h":50},"ban":40}`, "K", "C P B", 9)
	b.add("Pc", "@c:h", "m.room.power_levels", "", `{"users":{"@a:h":100,"@b:h":50,"@c:h":50},"ban":45}`, "K", "C P K", 8)
	b.add("Pa", "@a:h", "m.room.power_levels", "", `{"users":{"@a:h":100,"@c:h":50}}`, "K", "C P A", 20)
	b.add("T", "@b:h", "m.room.topic", "", `{"topic":"x"}`, "Pb", "C Pb B", 10)
	b.resolve("C J A B K Pb", "C J A B K Pb", "C J A B K Pc")
	b.resolve("C J A B K Pa", "C J A B K Pa", "C J A B K Pb T")
	for i, x := range []struct{ names, want string }{
		{"Pb Pc Pa", "Pa Pc Pb"}, {"Pb Pc", "Pc Pb"}, {"", ""}, {"T Pb", "Pb T"}, {"T P", "P T"}, {"J P A C B", "C A P J B"}, {"B P J", "P J B"}, {"T Pc", "Pc T"},
	} {
		got, e := Order(b.g, b.ids(x.names))
		if e != api.OK || b.words(got) != x.want {
			t.Error(i, b.words(got), e)
		}
	}
	for w, want := range map[string]int{"C": 0, "A": 100, "P": 100, "B": 50, "Pb": 50, "Pa": 100, "T": 50} {
		if got := Weight(b.g, b.word[w]); got != want {
			t.Error(w, got)
		}
	}
	if Weight(b.g, "none") != 0 || Weight(b.g[1:], b.word["Pa"]) != 0 {
		t.Error("weight of none")
	}
}

func TestLine(t *testing.T) {
	b := begin(t)
	b.add("P2", "@a:h", "m.room.power_levels", "", `{"users":{"@a:h":100,"@b:h":50},"ban":60}`, "K", "C A P", 7)
	b.add("P3", "@a:h", "m.room.power_levels", "", `{"users":{"@a:h":100,"@b:h":50},"ban":70}`, "P2", "C A P2", 8)
	b.add("Px", "@b:h", "m.room.power_levels", "", `{"users":{"@a:h":100,"@b:h":50},"ban":1}`, "P2", "C B P", 8)
	b.add("T1", "@b:h", "m.room.topic", "", `{"topic":"1"}`, "K", "C P B", 30)
	b.add("T2", "@b:h", "m.room.topic", "", `{"topic":"2"}`, "P2", "C P2 B", 20)
	b.add("T3", "@b:h", "m.room.topic", "", `{"topic":"3"}`, "P3", "C P3 B", 10)
	b.add("T4", "@b:h", "m.room.topic", "", `{"topic":"4"}`, "Px", "C Px B", 40)
	b.add("T5", "@b:h", "m.room.topic", "", `{"topic":"5"}`, "P3", "C P3 B", 9)
	b.add("T6", "@b:h", "m.room.topic", "", `{"topic":"6"}`, "P3", "C P2 P3 B", 1)
	for i, x := range []struct{ names, top, want string }{
		{"T1 T2 T3 T4 T5 T6", "P3", "T1 T4 T6 T2 T5 T3"},
		{"T3 T2 T1 C A", "P3", "C A T1 T2 T3"},
		{"P3 P2 P Px", "P3", "P Px P2 P3"},
		{"T1 T2 T3 T4 C", "", "C T3 T2 T1 T4"},
		{"T3 T2 T1 T4 C", "Px", "C T3 T2 T1 T4"},
		{"T4 P Px", "Px", "P Px T4"},
		{"T3 T2 T1", "T2", "T1 T3 T2"},
		{"T3 T5", "T5", "T5 T3"},
		{"", "P", ""},
	} {
		var top string
		if x.top != "" {
			top = b.word[x.top]
		}
		got, e := Line(b.g, b.ids(x.names), top)
		if e != api.OK || b.words(got) != x.want {
			t.Error(i, b.words(got), e)
		}
	}
	// The rest's order decides which topic comes last.
	b.resolve("C J A B K P3 T3", "C J A B K P3 T3", "C J A B K P T1")
	b.resolve("C J A B K P3 T3", "C J A B K P3 T3", "C J A B K P3 T5")
}

func TestDifference(t *testing.T) {
	b := begin(t)
	b.add("T1", "@b:h", "m.room.topic", "", `{"topic":"1"}`, "K", "C P B", 30)
	b.add("T2", "@c:h", "m.room.topic", "", `{"topic":"2"}`, "K", "C P K", 20)
	for i, x := range []struct {
		sets []string
		want string
	}{
		{nil, ""}, {[]string{"C A"}, ""}, {[]string{"T1", "T1"}, ""}, {[]string{"T1", "T2"}, "B K T1 T2"}, {[]string{"T1", "C"}, "A P J B T1"}, {[]string{"", "A"}, "C A"}, {[]string{"T1 K", "T2 B"}, "T1 T2"}, {[]string{"T1", "T2", "T1", "C A P J B K"}, "B K T1 T2"},
	} {
		var l [][]string
		for _, s := range x.sets {
			l = append(l, b.ids(s))
		}
		got, e := Difference(b.g, l)
		if e != api.OK || b.words(got) != x.want {
			t.Error(i, b.words(got), e)
		}
	}
}

// What the state hasn't, an event brings along: here all that it leans on, the creation first.
func TestBroughtAlong(t *testing.T) {
	b := begin(t)
	b.add("T1", "@b:h", "m.room.topic", "", `{"topic":"1"}`, "K", "C P B", 30)
	b.add("T2", "@c:h", "m.room.topic", "", `{"topic":"2"}`, "K", "C P K", 20)
	b.resolve("B K T1", "T1", "T2")
	b.resolve("C B K T1", "C T1", "C T2")
	b.resolve("C J A K T2", "C A J T2", "C A J K")
}

// What counts as power: by its slot, and of a member by another one's hand alone.
func TestPowerEvents(t *testing.T) {
	b := begin(t)
	for _, x := range []struct {
		word, sender, kind, key, content string
		want                             bool
	}{
		{"1", "@a:h", "m.room.power_levels", "", `{}`, true}, {"2", "@a:h", "m.room.power_levels", "x", `{}`, false}, {"3", "@a:h", "m.room.power_levels", "-", `{}`, false}, {"4", "@a:h", "m.room.join_rules", "", `{}`, true}, {"5", "@a:h", "m.room.join_rules", "x", `{}`, false}, {"6", "@a:h", "m.room.topic", "", `{}`, false},
		{"7", "@a:h", "m.room.member", "@b:h", ban, true}, {"8", "@a:h", "m.room.member", "@b:h", leave, true}, {"9", "@b:h", "m.room.member", "@b:h", leave, false}, {"10", "@a:h", "m.room.member", "@b:h", `{"membership":"invite"}`, false}, {"11", "@a:h", "m.room.member", "", ban, true}, {"12", "@a:h", "m.room.member", "-", ban, false},
	} {
		b.add(x.word, x.sender, x.kind, x.key, x.content, "K", "C P", 9)
		if got := isPower(b.find(b.word[x.word])); got != x.want {
			t.Error(x.word, got)
		}
	}
}

func TestErrors(t *testing.T) {
	b := begin(t)
	b.add("N", "@a:h", "note", "-", `{}`, "K", "C P A", 9)
	b.add("A2", "@a:h", "m.room.member", "@a:h", join, "K", "C P A", 9)
	nine := slices.Repeat([][]string{b.ids("C")}, 9)
	for i, sets := range [][][]string{{{"none"}}, {b.ids("C"), {"none"}}, {b.ids("C C")}, {b.ids("N")}, {b.ids("A A2")}, nine} {
		l, e := Resolve(b.g, sets)
		m, f := Difference(b.g, sets)
		if e != api.ErrArg || f != api.ErrArg || len(l)+len(m) > 0 {
			t.Error(i, e, f)
		}
	}
	if _, e := Resolve(b.g, nine[:8]); e != api.OK {
		t.Error(e)
	}
	for i, x := range []struct {
		g     []api.Event
		names []string
		top   string
	}{{b.g, []string{"none"}, ""}, {b.g, b.ids("C A C"), ""}, {b.g[1:], nil, ""}, {b.g[1:], b.ids("A"), ""}} {
		l, e := Order(x.g, x.names)
		m, f := Line(x.g, x.names, x.top)
		if e != api.ErrArg || f != api.ErrArg || len(l)+len(m) > 0 {
			t.Error(i, e, f)
		}
	}
	if l, e := Line(b.g, b.ids("C"), "none"); e != api.ErrArg || len(l) > 0 {
		t.Error(e)
	}
	if _, e := Resolve(b.g[1:], nil); e != api.ErrArg {
		t.Error(e)
	}
	if l, e := Order(b.g, b.ids("N C")); e != api.OK || b.words(l) != "C N" {
		t.Error(l, e)
	}
}

// plainly resolves by the words, from what the other calls tell.
func (b *book) plainly(sets [][]string) []string {
	find := b.find
	slot := func(id string) api.Slot { e := find(id); return api.Slot{Type: e.Type, Key: e.Key} }
	agreed, full := map[api.Slot]string{}, map[string]bool{}
	for _, set := range sets {
		for _, id := range set {
			all := true
			for _, other := range sets {
				all = all && slices.Contains(other, id)
			}
			if all {
				agreed[slot(id)] = id
			} else {
				full[id] = true
			}
		}
	}
	difference, _ := Difference(b.g, sets)
	for _, id := range difference {
		full[id] = true
	}
	power := map[string]bool{}
	for id := range full {
		e := find(id)
		m := rule.Membership([]api.Event{e}, e.Key)
		if e.State && (e.Key == "" && (e.Type == "m.room.power_levels" || e.Type == "m.room.join_rules") || e.Type == "m.room.member" && e.Key != e.Sender && (m == "leave" || m == "ban")) {
			power[id] = true
			for _, c := range graph.Chain(b.g, id) {
				if full[c] {
					power[c] = true
				}
			}
		}
	}
	state := map[api.Slot]string{}
	for s, id := range agreed {
		state[s] = id
	}
	try := func(ids []string) {
		for _, id := range ids {
			e := find(id)
			var by []api.Event
			for _, need := range rule.Needs(e) {
				if at, ok := state[need]; ok {
					by = append(by, find(at))
					continue
				}
				for _, a := range e.Auth {
					if find(a).State && slot(a) == need {
						by = append(by, find(a))
						break
					}
				}
			}
			if e.State && rule.Allowed(by, e) == api.OK {
				state[slot(id)] = id
			}
		}
	}
	var part, rest []string
	for _, e := range b.g {
		if power[e.ID] {
			part = append(part, e.ID)
		} else if full[e.ID] {
			rest = append(rest, e.ID)
		}
	}
	part, _ = Order(b.g, part)
	try(part)
	rest, _ = Line(b.g, rest, state[api.Slot{Type: "m.room.power_levels"}])
	try(rest)
	for s, id := range agreed {
		state[s] = id
	}
	var l []string
	for _, id := range state {
		l = append(l, id)
	}
	slices.SortFunc(l, func(x, y string) int {
		a, b := slot(x), slot(y)
		return 2*strings.Compare(a.Type, b.Type) + strings.Compare(a.Key, b.Key)
	})
	return l
}

// grow adds events at random, each by the state behind what it follows, whether they may be or not.
func grow(t *testing.T, rnd *rand.Rand) (*book, [][]string) {
	b := begin(t)
	states := [][]string{}
	for i := range b.g {
		states = append(states, b.ids(strings.Join([]string{"C", "A", "P", "J", "B", "K"}[:i+1], " ")))
	}
	users := []string{"@a:h", "@b:h", "@c:h", "@d:h"}
	for i := range 14 {
		at := []int{len(b.g) - 1 - rnd.Intn(4)}
		if other := len(b.g) - 1 - rnd.Intn(3); other != at[0] {
			at = append(at, other)
		}
		var prev, behind [][]string
		for _, j := range at {
			prev = append(prev, []string{b.g[j].ID})
			behind = append(behind, states[j])
		}
		state, e := Resolve(b.g, behind)
		if e != api.OK {
			t.Fatal(e)
		}
		u, v, n := users[rnd.Intn(4)], users[rnd.Intn(4)], strconv.Itoa(rnd.Intn(60))
		kind, key, content := "m.room.topic", "", `{"topic":"`+n+`"}`
		switch rnd.Intn(6) {
		case 0:
			kind, content = "m.room.power_levels", `{"users":{"@a:h":100,"@b:h":`+n+`,"@c:h":50},"ban":`+n+`}`
		case 1:
			kind, content = "m.room.join_rules", `{"join_rule":"`+[]string{"public", "invite"}[rnd.Intn(2)]+`"}`
		case 2:
			kind, key, content = "m.room.member", v, []string{ban, leave}[rnd.Intn(2)]
		case 3:
			kind, key, content = "m.room.member", u, []string{join, leave}[rnd.Intn(2)]
		}
		x := api.Event{Room: "!r:h", Sender: u, Type: kind, State: true, Key: key, Time: rnd.Intn(8)}
		x.Content, _ = json.Parse(content)
		x.Prev = slices.Concat(prev...)
		x.Depth = graph.Depth(b.g, x.Prev...)
		for _, need := range rule.Needs(x) {
			for _, id := range state {
				if e := b.find(id); e.Type == need.Type && e.Key == need.Key {
					x.Auth = append(x.Auth, id)
				}
			}
		}
		x, e = event.Build(x, api.Signer{Server: "h", Key: "ed25519:0"})
		if e != api.OK {
			t.Fatal(e)
		}
		next, e := graph.Add(b.g, x)
		if e == api.ErrTwice {
			continue
		}
		if e != api.OK {
			t.Fatal(i, e)
		}
		b.g = next
		b.word["e"+strconv.Itoa(i)] = x.ID
		after := slices.DeleteFunc(slices.Clone(state), func(id string) bool {
			e := b.find(id)
			return e.Type == kind && e.Key == key
		})
		states = append(states, append(after, x.ID))
	}
	return b, states
}

// P25.1 to P25.4, at random.
func TestRandom(t *testing.T) {
	rnd := rand.New(rand.NewSource(25))
	for range 12 {
		b, states := grow(t, rnd)
		for range 4 {
			var sets [][]string
			for range 1 + rnd.Intn(3) {
				sets = append(sets, states[len(states)-1-rnd.Intn(10)])
			}
			got, e := Resolve(b.g, sets)
			if e != api.OK || !slices.Equal(got, b.plainly(sets)) {
				t.Fatal("by the words", b.words(got), b.words(b.plainly(sets)))
			}
			others := append(slices.Clone(sets), sets[0], sets[len(sets)-1])
			rnd.Shuffle(len(others), func(i, j int) { others[i], others[j] = others[j], others[i] })
			if again, e := Resolve(b.g, others); e != api.OK || !reflect.DeepEqual(again, got) {
				t.Fatal("in any order")
			}
			one, e := Resolve(b.g, [][]string{sets[0], sets[0]})
			mine := slices.Clone(sets[0])
			slices.Sort(mine)
			slices.Sort(one)
			if e != api.OK || !slices.Equal(one, mine) {
				t.Fatal("one")
			}
			for _, id := range sets[0] {
				if !slices.ContainsFunc(sets, func(s []string) bool { return !slices.Contains(s, id) }) && !slices.Contains(got, id) {
					t.Fatal("what all have")
				}
			}
			var l []api.Event
			difference, _ := Difference(b.g, sets)
			for _, id := range got {
				e := b.find(id)
				l = append(l, e)
				if !slices.Contains(difference, id) && !slices.ContainsFunc(sets, func(s []string) bool { return slices.Contains(s, id) }) {
					t.Fatal("some of them")
				}
			}
			if !rule.State(l) {
				t.Fatal("a state")
			}
		}
	}
}
