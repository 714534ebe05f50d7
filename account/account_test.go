package account

import (
	"math/rand"
	"reflect"
	"slices"
	"strconv"
	"strings"
	"testing"

	"vouchsafe/api"
)

func user(token string, agreed ...string) api.User {
	return api.User{Token: token, Mxid: "@" + strings.ToLower(token) + ":h", Agreed: agreed}
}

func many(n int) []api.User {
	var l []api.User
	for i := range n {
		l = append(l, user(string([]byte{byte('a' + i)})))
	}
	return l
}

func TestRight(t *testing.T) {
	for i, l := range [][]api.User{nil, {user("a"), user("b", "d", "e")}, {user("B"), user("a")}, many(16), {user(strings.Repeat("x", 64), "1", "2", "3", strings.Repeat("~", 64))}} {
		if !Right(l) {
			t.Error(i)
		}
	}
	for i, l := range [][]api.User{
		{user("b"), user("a")}, {user("a"), user("a")}, many(17), {{Token: "", Mxid: "@a:h"}}, {{Token: "a b", Mxid: "@a:h"}}, {{Token: strings.Repeat("x", 65), Mxid: "@a:h"}}, {{Token: "a", Mxid: "a"}}, {{Token: "a", Mxid: "!a:h"}},
		{user("a", "b", "a")}, {user("a", "b", "b")}, {user("a", "1", "2", "3", "4", "5")}, {user("a", "")}, {user("a", "x y")}, {user("a", strings.Repeat("x", 65))},
	} {
		r1, e1 := Register(l, "z", "@z:h")
		r2, e2 := Logout(l, "a")
		w, e3 := Whose(l, "a")
		r4, e4 := Agree(l, "a", "d")
		e5 := Agreed(l, "a")
		if Right(l) || e1 != api.ErrArg || e2 != api.ErrArg || e3 != api.ErrArg || e4 != api.ErrArg || e5 != api.ErrArg || w != "" || !reflect.DeepEqual([][]api.User{r1, r2, r4}, [][]api.User{l, l, l}) {
			t.Error(i, e1, e2, e3, e4, e5)
		}
	}
}

func TestRegister(t *testing.T) {
	l := []api.User{user("b", "d"), user("d")}
	for i, x := range []struct {
		token, mxid string
		at          int
		e           api.Errno
	}{
		{"a", "@x:h", 0, 0}, {"c", "@b:h", 1, 0}, {"e", "@x:h", 2, 0}, {"B", "@x:h", 0, 0}, {"b", "@x:h", 0, api.ErrTwice},
		{"", "@x:h", 0, api.ErrArg}, {"b", "x", 0, api.ErrArg}, {"a\n", "@x:h", 0, api.ErrArg}, {"a", "!x:h", 0, api.ErrArg},
	} {
		r, e := Register(l, x.token, x.mxid)
		if e != x.e || e != api.OK && !reflect.DeepEqual(r, l) || e == api.OK && (len(r) != 3 || !Right(r) || r[x.at].Token != x.token || r[x.at].Mxid != x.mxid || len(r[x.at].Agreed) > 0) {
			t.Error(i, r, e)
		}
	}
	if r, e := Register(many(16), "z", "@z:h"); e != api.ErrFull || len(r) != 16 {
		t.Error(e)
	}
	if _, e := Register(many(16), "a", "@z:h"); e != api.ErrTwice {
		t.Error(e)
	}
	if r, e := Register(many(15), "z", "@z:h"); e != api.OK || len(r) != 16 {
		t.Error(e)
	}
}

func TestOthers(t *testing.T) {
	l := []api.User{user("b", "d"), user("d", "1", "2", "3")}
	if w, e := Whose(l, "d"); w != "@d:h" || e != api.OK {
		t.Error(w, e)
	}
	for _, token := range []string{"", "a", "B", "d "} {
		w, e := Whose(l, token)
		r, f := Logout(l, token)
		s, g := Agree(l, token, "")
		if w != "" || e != api.ErrAuth || f != api.ErrAuth || g != api.ErrAuth || Agreed(l, token, "none") != api.ErrAuth || !reflect.DeepEqual([][]api.User{r, s}, [][]api.User{l, l}) {
			t.Error(token, e, f, g)
		}
	}
	for i, x := range []struct {
		documents []string
		want      []string
		e         api.Errno
	}{
		{nil, []string{"1", "2", "3"}, 0}, {[]string{"2", "0", "2", "0"}, []string{"0", "1", "2", "3"}, 0}, {[]string{"4", "5"}, nil, api.ErrFull}, {[]string{"4", "5", ""}, nil, api.ErrArg}, {[]string{"x y"}, nil, api.ErrArg}, {[]string{strings.Repeat("x", 65)}, nil, api.ErrArg},
	} {
		r, e := Agree(l, "d", x.documents...)
		if e != x.e || e == api.OK && (!slices.Equal(r[1].Agreed, x.want) || !Right(r)) || e != api.OK && !reflect.DeepEqual(r, l) {
			t.Error(i, r, e)
		}
	}
	for i, x := range []struct {
		terms []string
		e     api.Errno
	}{{nil, 0}, {[]string{"3", "1", "1"}, 0}, {[]string{"1", "4"}, api.ErrTerms}, {[]string{""}, api.ErrTerms}} {
		if e := Agreed(l, "d", x.terms...); e != x.e {
			t.Error(i, e)
		}
	}
	r, e := Logout(l, "b")
	if e != api.OK || !reflect.DeepEqual(r, l[1:]) || l[0].Token != "b" {
		t.Error(r, e)
	}
}

func TestHandedIn(t *testing.T) {
	agreed := []string{"1", "2", "kept"}
	l := []api.User{{Token: "a", Mxid: "@a:h", Agreed: agreed[:2]}, {Token: "kept"}}
	docs := []string{"z", "b"}
	Agree(l[:1], "a", docs...)
	Register(l[:1], "b", "@b:h")
	Logout(l[:1], "a")
	if agreed[2] != "kept" || l[1].Token != "kept" || l[0].Token != "a" || docs[0] != "z" || len(l[0].Agreed) != 2 {
		t.Error("changed", l, docs)
	}
}

// P17.1 and P17.2: lists stay right, and what one does changes nothing of another one's.
func TestOnesOwn(t *testing.T) {
	rnd := rand.New(rand.NewSource(17))
	var l []api.User
	for range 4000 {
		token := "t" + strconv.Itoa(rnd.Intn(20))
		was := slices.DeleteFunc(slices.Clone(l), of(token))
		switch rnd.Intn(4) {
		case 0:
			l, _ = Register(l, token, "@u"+strconv.Itoa(rnd.Intn(3))+":h")
		case 1:
			l, _ = Logout(l, token)
		default:
			l, _ = Agree(l, token, strconv.Itoa(rnd.Intn(6)))
		}
		if is := slices.DeleteFunc(slices.Clone(l), of(token)); !Right(l) || len(is) > 0 && !reflect.DeepEqual(was, is) {
			t.Fatal(was, is)
		}
	}
}
