package canon

import (
	"math/rand"
	"strconv"
	"strings"
	"testing"

	"vouchsafe/api"
	"vouchsafe/json"
)

func text(s string) api.Value { return api.Value{Kind: api.Text, Text: s} }

func num(n int) api.Value { return api.Value{Kind: api.Number, Num: n} }

// P3.1: texts of trees, as the words say.
func TestPrint(t *testing.T) {
	for _, x := range []struct{ in, want string }{
		{`null`, `null`}, {` true`, `true`}, {`false `, `false`}, {`-12`, `-12`}, {`0`, `0`}, {`9007199254740991`, `9007199254740991`},
		{`{"b":1,"a":"\u00e9/"}`, `{"a":"é/","b":1}`},
		{`[ 1 , [ ] , { } ]`, `[1,[],{}]`},
		{`"\u0001\u0008\u0009\u000a\u000b\u000c\u000d\u001f\u007f"`, "\"\\u0001\\b\\t\\n\\u000b\\f\\r\\u001f\x7f\""},
		{`"\"\\\/"`, `"\"\\/"`},
		{`"\ud83d\ude00\u0020\u0021"`, `"😀 !"`},
		{`{"\n":{"b":2,"a":[null]},"":""}`, `{"":"","\n":{"a":[null],"b":2}}`},
	} {
		v, e := json.Parse(x.in)
		if e != api.OK {
			t.Fatal(x.in, e)
		}
		s, e := Print(v)
		if e != api.OK || s != x.want || Length(v) != len(s) {
			t.Errorf("%s: %s %v", x.in, s, e)
		}
		if !Canonical(x.want) || x.in != x.want && Canonical(x.in) {
			t.Error(x)
		}
	}
}

func TestBounds(t *testing.T) {
	for _, n := range []int{0, 1, 8189, 8190, 8191, 100000} {
		for _, c := range []string{"a", "\x01"} {
			v := text(strings.Repeat(c, n))
			q, f := Quote(v.Text)
			whole := n + 2
			if c == "\x01" {
				whole = 6*n + 2
			}
			s, e := Print(v)
			if f != api.OK || len(q) != whole {
				t.Error(n, len(q), f)
			}
			if whole > api.MaxText {
				if e != api.ErrLong || s != "" || Length(v) != 8193 || Canonical(q) {
					t.Error(n, e, Length(v))
				}
			} else if e != api.OK || s != q || Length(v) != whole || !Canonical(q) {
				t.Error(n, e, Length(v))
			}
		}
	}
	wide := api.Value{Kind: api.List, Items: make([]api.Value, 100000)}
	if _, e := Print(wide); e != api.ErrLong || Length(wide) != 8193 {
		t.Error(e, Length(wide))
	}
}

func TestWrong(t *testing.T) {
	for i, v := range []api.Value{{Kind: 7}, {Kind: -1}, text("\xff"), num(api.MaxInt + 1), {Kind: api.Object, Names: []string{"b", "a"}, Items: make([]api.Value, 2)}, {Kind: api.Object, Names: []string{"a"}}, {Kind: api.List, Text: "x"}} {
		if s, e := Print(v); e != api.ErrArg || s != "" || Length(v) != 0 {
			t.Error(i, s, e)
		}
	}
	if s, e := Quote("a\xff"); e != api.ErrArg || s != "" {
		t.Error(s, e)
	}
	for _, s := range []string{"", " 1", "1 ", "1x", `"\u0041"`, `"\/"`, `"\u00e9"`, `"\u000A"`, `"\u001F"`, `{"b":1,"a":2}`, `[1, 2]`, "\"\xff\"", "-0", "[", `{"a":1,"a":1}`} {
		if Canonical(s) {
			t.Error(s)
		}
	}
}

func draw(rnd *rand.Rand, deep int) api.Value {
	switch k := rnd.Intn(7); {
	case k < api.Number:
		return api.Value{Kind: k}
	case k == api.Number:
		return num(rnd.Intn(5) - 2)
	case k == api.Text || deep == 0:
		return text(string([]rune{rune(rnd.Intn(140)), rune(rnd.Intn(0xd800))}[:rnd.Intn(3)]))
	default:
		v := api.Value{Kind: k}
		for i := range rnd.Intn(4) {
			v.Items = append(v.Items, draw(rnd, deep-1))
			if k == api.Object {
				v.Names = append(v.Names, strconv.Itoa(i)+"\"\n")
			}
		}
		return v
	}
}

// P3.2 and P3.3: there and back, and one text for one tree.
func TestOneWay(t *testing.T) {
	rnd := rand.New(rand.NewSource(5))
	var trees []api.Value
	var texts []string
	for range 600 {
		v := draw(rnd, 3)
		s, e := Print(v)
		w, f := json.Parse(s)
		if e != api.OK || f != api.OK || !json.Same(v, w) || !Canonical(s) {
			t.Fatal(s, e, f)
		}
		for i := range trees {
			if json.Same(trees[i], v) != (texts[i] == s) {
				t.Fatal(texts[i], s)
			}
		}
		trees, texts = append(trees, v), append(texts, s)
	}
}
