package json

import (
	stdjson "encoding/json"
	"math/rand"
	"slices"
	"strconv"
	"strings"
	"testing"

	"vouchsafe/api"
)

func num(n int) api.Value               { return api.Value{Kind: api.Number, Num: n} }
func text(s string) api.Value           { return api.Value{Kind: api.Text, Text: s} }
func list(items ...api.Value) api.Value { return api.Value{Kind: api.List, Items: items} }

// object is made of names and values by turns, in the order they must have.
func object(l ...any) api.Value {
	v := api.Value{Kind: api.Object}
	for i := 0; i < len(l); i += 2 {
		v.Names = append(v.Names, l[i].(string))
		v.Items = append(v.Items, l[i+1].(api.Value))
	}
	return v
}

// nest is a list in a list, so many deep.
func nest(n int) api.Value {
	v := num(1)
	for range n {
		v = list(v)
	}
	return v
}

// into is an object in an object, so many deep.
func into(n int) api.Value {
	v := object()
	for range n - 1 {
		v = object("a", v)
	}
	return v
}

func TestParseTrees(t *testing.T) {
	for _, x := range []struct {
		text string
		want api.Value
	}{
		{`null`, api.Value{}},
		{` true `, api.Value{Kind: api.True}},
		{`false`, api.Value{Kind: api.False}},
		{`0`, num(0)},
		{`-1`, num(-1)},
		{`10`, num(10)},
		{`9007199254740991`, num(api.MaxInt)},
		{`-9007199254740991`, num(-api.MaxInt)},
		{`""`, text("")},
		{"\"\x7f/\"", text("\x7f/")},
		{`"\"\\\/\b\f\n\r\t"`, text("\"\\/\b\f\n\r\t")},
		{`"\u0000\u00e9\u00E9\uffff\ud800\udc00\uDBFF\uDFFF"`, text("\x00éé\uffff\U00010000\U0010ffff")},
		{`"\u000a\u000A\u00aF\ud7ff\ue000"`, text("\n\n\u00af\xed\x9f\xbf\xee\x80\x80")},
		{`"é€😀 "`, text("é€😀 ")},
		{`[]`, list()},
		{"[ \t\n\r]", list()},
		{`[1,[2],{}]`, list(num(1), list(num(2)), object())},
		{`{"b": [1, -2], "a": "\u00e9"}`, object("a", text("é"), "b", list(num(1), num(-2)))},
		{`{"":null}`, object("", api.Value{})},
		{strings.Repeat("[", 12) + "1" + strings.Repeat("]", 12), nest(12)},
		{`{"é":1,"z":2,"\u0000":3}`, object("\x00", num(3), "z", num(2), "é", num(1))},
	} {
		v, e := Parse(x.text)
		if e != api.OK || !Right(v) || !Same(v, x.want) {
			t.Errorf("%s: %v %v", x.text, v, e)
		}
	}
}

func TestParseErrors(t *testing.T) {
	long := strings.Repeat(" ", 8191)
	if v, e := Parse("1" + long); e != api.OK || v.Num != 1 {
		t.Error("8192 bytes", e)
	}
	deep := strings.Repeat("[", 12)
	for _, x := range []struct {
		text string
		want api.Errno
	}{
		{"1 " + long, api.ErrLong},
		{"\xff " + long, api.ErrLong},
		{"", api.ErrForm}, {" ", api.ErrForm}, {"nul", api.ErrForm}, {"nullx", api.ErrForm}, {"None", api.ErrForm},
		{"1.5", api.ErrForm}, {"1e3", api.ErrForm}, {"-0", api.ErrForm}, {"-", api.ErrForm}, {"+1", api.ErrForm}, {"01", api.ErrForm}, {"-01", api.ErrForm},
		{"9007199254740992", api.ErrRange}, {"-9007199254740992", api.ErrRange}, {"9007199254740992x", api.ErrRange}, {"[9007199254740992.5", api.ErrRange}, {strings.Repeat("9", 4000), api.ErrRange},
		{"1 9007199254740992", api.ErrForm},
		{"\"\xff\"", api.ErrForm}, {deep + "[\xff", api.ErrForm},
		{"\"a", api.ErrForm}, {"\"\n\"", api.ErrForm}, {"\"\x1f\"", api.ErrForm}, {`"\x"`, api.ErrForm}, {`"\`, api.ErrForm}, {"\"\\\x00\"", api.ErrForm},
		{`"\u12"`, api.ErrForm}, {`"\u12g4"`, api.ErrForm}, {`"\ud800"`, api.ErrForm}, {`"\ud800\u0041"`, api.ErrForm}, {`"\ud800x\udc00"`, api.ErrForm}, {`"\udc00"`, api.ErrForm}, {`"\udc00\udc00"`, api.ErrForm}, {`"\ud800\ue000"`, api.ErrForm}, {`"\ud800\udbff"`, api.ErrForm}, {`"\u00/0"`, api.ErrForm}, {`"\u00:0"`, api.ErrForm}, {"\"\\u00`0\"", api.ErrForm}, {`"\u00@0"`, api.ErrForm}, {`"\u00G0"`, api.ErrForm}, {`"\ud800\ud800"`, api.ErrForm}, {`"\U0041"`, api.ErrForm},
		{"[1,]", api.ErrForm}, {"[,1]", api.ErrForm}, {"[1 2]", api.ErrForm}, {"[1", api.ErrForm}, {"]", api.ErrForm}, {"[1}", api.ErrForm},
		{"{1:2}", api.ErrForm}, {`{"a"}`, api.ErrForm}, {`{"a":}`, api.ErrForm}, {`{"a":1,}`, api.ErrForm}, {`{"a" 1}`, api.ErrForm}, {`{"a":1`, api.ErrForm}, {`{a:1}`, api.ErrForm},
		{deep + "[", api.ErrDeep}, {deep + "{", api.ErrDeep}, {strings.Repeat(`{"a":`, 13), api.ErrDeep}, {deep + "[9007199254740992", api.ErrDeep},
		{`{"a":1,"a":2}`, api.ErrTwice}, {`{"a":1,"\u0061"`, api.ErrTwice}, {`{"a":1,"b":2,"a"x`, api.ErrTwice}, {`{"a":{"a":1},"b":{},"b":`, api.ErrTwice},
		{`{"a":1,"a":9007199254740992}`, api.ErrTwice}, {`{"a":9007199254740992,"a":1}`, api.ErrRange},
		{"1 x", api.ErrForm}, {"[] []", api.ErrForm}, {"1\x00", api.ErrForm}, {"\xef\xbb\xbf1", api.ErrForm}, {"1\v", api.ErrForm},
	} {
		v, e := Parse(x.text)
		if e != x.want || !Same(v, api.Value{}) {
			t.Errorf("%.40q: %v, not %v", x.text, e, x.want)
		}
	}
}

// P2.1: texts that were hurt are judged as another reader judges them, where both know the grammar alike.
func TestParseHurt(t *testing.T) {
	rnd := rand.New(rand.NewSource(2))
	letters := []byte(`{}[]:,"\u0123aeEnrlt fs-.` + "\n\x00é")
	seed := `{"a":[1,-20,{"b":"\u00e9\n"}],"c":null,"d":[true,false]}`
	for range 30000 {
		b := []byte(seed)
		for range 1 + rnd.Intn(3) {
			b[rnd.Intn(len(b))] = letters[rnd.Intn(len(letters))]
		}
		s := string(b)
		_, e := Parse(s)
		if e == api.OK && !stdjson.Valid(b) {
			t.Fatalf("%q", s)
		}
		if e == api.ErrForm && stdjson.Valid(b) && !strings.ContainsAny(s, ".eE\\") && !strings.Contains(s, "-0") && strings.ToValidUTF8(s, "") == s {
			t.Fatalf("%q", s)
		}
	}
}

func draw(rnd *rand.Rand, deep int) api.Value {
	switch k := rnd.Intn(7); {
	case k < api.Number:
		return api.Value{Kind: k}
	case k == api.Number:
		return num(rnd.Intn(2001) - 1000)
	case k == api.Text || deep == 0:
		return text(string([]rune{rune(rnd.Intn(3000)), 'x'}))
	case k == api.List:
		v := list()
		for range rnd.Intn(4) {
			v.Items = append(v.Items, draw(rnd, deep-1))
		}
		return v
	}
	v := object()
	for i := range rnd.Intn(4) {
		v.Names = append(v.Names, "n"+strconv.Itoa(i))
		v.Items = append(v.Items, draw(rnd, deep-1))
	}
	return v
}

// write lays a tree out with blanks between its parts, as the draw says.
func write(rnd *rand.Rand, v api.Value) string {
	gap := strings.Repeat(string(" \t\n\r"[rnd.Intn(4)]), rnd.Intn(3))
	var parts []string
	for i, x := range v.Items {
		s := write(rnd, x)
		if v.Kind == api.Object {
			s = gap + strconv.Quote(v.Names[i]) + gap + ":" + s
		}
		parts = append(parts, s)
	}
	inside := strings.Join(parts, ",")
	switch v.Kind {
	case api.Null, api.True, api.False:
		return gap + []string{"null", "true", "false"}[v.Kind] + gap
	case api.Number:
		return gap + strconv.Itoa(v.Num) + gap
	case api.Text:
		b, _ := stdjson.Marshal(v.Text)
		return gap + string(b) + gap
	case api.List:
		return gap + "[" + gap + inside + "]" + gap
	}
	return gap + "{" + gap + inside + "}" + gap
}

// P2.3: blanks change nothing.
func TestBlanks(t *testing.T) {
	rnd := rand.New(rand.NewSource(3))
	for range 3000 {
		v := draw(rnd, 3)
		s := write(rnd, v)
		w, e := Parse(s)
		if e != api.OK || !Same(v, w) {
			t.Fatalf("%q %v", s, e)
		}
	}
}

func TestRight(t *testing.T) {
	for i, v := range []api.Value{
		{Kind: -1}, {Kind: 7}, {Num: 1}, {Text: "x"}, {Names: []string{"a"}}, {Items: []api.Value{{}}},
		{Kind: api.True, Num: 1}, {Kind: api.False, Text: "x"},
		num(api.MaxInt + 1), num(-api.MaxInt - 1), {Kind: api.Number, Text: "1"}, {Kind: api.Number, Items: []api.Value{{}}},
		text("\xff"), {Kind: api.Text, Num: 1}, {Kind: api.Text, Names: []string{"a"}},
		{Kind: api.List, Names: []string{"a"}, Items: []api.Value{{}}}, {Kind: api.List, Num: 1}, list(text("\xff")), nest(13),
		object("b", num(1), "a", num(2)), object("a", num(1), "a", num(2)), object("\xff", num(1)), object("a", nest(12)), object("a", num(api.MaxInt+1)),
		into(13), list(into(12)), object("b", into(12)),
		{Kind: api.Object, Names: []string{"a"}}, {Kind: api.Object, Items: []api.Value{{}}}, {Kind: api.Object, Text: "x"},
	} {
		if Right(v) || Same(v, v) {
			t.Error(i, v)
		}
	}
	for i, v := range []api.Value{{}, into(12), list(into(11)), {Names: []string{}, Items: []api.Value{}}, num(api.MaxInt), nest(12), object("", num(1), "a", nest(11))} {
		if !Right(v) || !Same(v, v) {
			t.Error(i, v)
		}
	}
	if !Same(api.Value{Kind: api.List}, api.Value{Kind: api.List, Items: []api.Value{}}) || Same(list(), object()) || Same(num(1), num(2)) || Same(text("1"), num(1)) {
		t.Error("same")
	}
	if Same(object("a", num(1)), object("b", num(1))) || Same(list(num(1)), list(num(1), num(2))) || Same(list(num(1)), list(num(2))) {
		t.Error("same lists")
	}
}

func TestDeepAndGet(t *testing.T) {
	for n := range 40 {
		if d := Deep(nest(n)); d != min(n, 13) {
			t.Error(n, d)
		}
	}
	many := nest(20000)
	if Deep(many) != 13 || Right(many) || Deep(list(num(1), nest(4), num(2))) != 5 {
		t.Error("deep")
	}
	if Deep(api.Value{Kind: api.Text, Items: []api.Value{nest(3)}}) != 0 || Deep(api.Value{Kind: 9}) != 0 || Deep(list()) != 1 {
		t.Error("others")
	}
	v := api.Value{Kind: api.Object, Names: []string{"a", "b", "a", "c"}, Items: []api.Value{num(1), num(2), num(3)}}
	for _, x := range []struct {
		name string
		n    int
		ok   bool
	}{{"a", 1, true}, {"b", 2, true}, {"c", 0, false}, {"d", 0, false}} {
		if g, ok := Get(v, x.name); ok != x.ok || g.Num != x.n {
			t.Error(x, g, ok)
		}
	}
	if _, ok := Get(api.Value{Kind: api.List, Names: []string{"a"}, Items: []api.Value{num(1)}}, "a"); ok {
		t.Error("a list")
	}
}

// P2.2: what is put under a name is there, all others stay; what is taken away isn't there.
func TestOneName(t *testing.T) {
	rnd := rand.New(rand.NewSource(4))
	for range 3000 {
		v := draw(rnd, 3)
		name := "n" + strconv.Itoa(rnd.Intn(5))
		x := draw(rnd, 2)
		w, e := With(v, name, x)
		if v.Kind != api.Object {
			if e != api.ErrArg || !Same(Without(v, name), v) {
				t.Fatal(v, e)
			}
			continue
		}
		if g, ok := Get(w, name); e != api.OK || !Right(w) || !ok || !Same(g, x) {
			t.Fatal(v, name, w, e)
		}
		if !Same(Without(w, name), Without(v, name)) {
			t.Fatal(v, name, w)
		}
		u := Without(w, name, "no such")
		if _, ok := Get(u, name); ok || !Right(u) || len(u.Names) != len(w.Names)-1 {
			t.Fatal(u)
		}
	}
	wrong := object("b", num(1), "a", num(2))
	if w := Without(wrong, "a"); !slices.Equal(w.Names, []string{"b", "a"}) {
		t.Error(w)
	}
}

func TestWithErrors(t *testing.T) {
	o := object("a", num(1))
	for i, x := range []struct {
		v    api.Value
		name string
		x    api.Value
		want api.Errno
	}{
		{list(), "a", num(1), api.ErrArg}, {object("a", text("\xff")), "a", num(1), api.ErrArg}, {o, "a", text("\xff"), api.ErrArg}, {o, "\xff", num(1), api.ErrArg},
		{o, "a", nest(13), api.ErrArg}, {o, "\xff", nest(12), api.ErrArg}, {o, "a", nest(12), api.ErrDeep}, {o, "a", nest(11), api.OK}, {object("a", nest(11)), "a", num(1), api.OK},
	} {
		if w, e := With(x.v, x.name, x.x); e != x.want || e != api.OK && !Same(w, api.Value{}) {
			t.Error(i, w, e)
		}
	}
}

func TestMake(t *testing.T) {
	v, e := Make(api.Pair{Name: "b", Value: num(1)}, api.Pair{Name: "a", Value: nest(11)})
	if e != api.OK || !Same(v, object("a", nest(11), "b", num(1))) {
		t.Error(v, e)
	}
	if v, e := Make(); e != api.OK || !Same(v, object()) {
		t.Error(v, e)
	}
	for i, x := range []struct {
		l    []api.Pair
		want api.Errno
	}{
		{[]api.Pair{{Name: "a"}, {Name: "a"}}, api.ErrTwice},
		{[]api.Pair{{Name: "a"}, {Name: "a"}, {Name: "\xff"}}, api.ErrArg},
		{[]api.Pair{{Name: "a"}, {Name: "a", Value: num(api.MaxInt + 1)}}, api.ErrArg},
		{[]api.Pair{{Name: "a", Value: nest(12)}, {Name: "a"}}, api.ErrTwice},
		{[]api.Pair{{Name: "a", Value: nest(12)}}, api.ErrDeep},
		{[]api.Pair{{Name: "a", Value: nest(13)}}, api.ErrArg},
	} {
		if v, e := Make(x.l...); e != x.want || !Same(v, api.Value{}) {
			t.Error(i, v, e)
		}
	}
}

// P1: what is handed in isn't changed, its spare room neither.
func TestHandedIn(t *testing.T) {
	names := []string{"b", "d", "kept"}
	items := []api.Value{num(1), num(2), num(99)}
	v := api.Value{Kind: api.Object, Names: names[:2], Items: items[:2]}
	With(v, "a", num(3))
	With(v, "b", num(4))
	With(v, "z", num(5))
	Without(v, "b")
	pairs := []api.Pair{{Name: "z"}, {Name: "a"}}
	Make(pairs...)
	if !slices.Equal(names, []string{"b", "d", "kept"}) || items[0].Num != 1 || items[2].Num != 99 || pairs[0].Name != "z" {
		t.Error(names, items, pairs)
	}
}
