package lookup

import (
	"crypto/sha256"
	"encoding/base64"
	"slices"
	"strconv"
	"strings"
	"testing"

	"vouchsafe/api"
	"vouchsafe/canon"
	"vouchsafe/json"
)

func show(v api.Value) string {
	s, _ := canon.Print(v)
	return s
}

func mail(s string) api.Address { return api.Address{Medium: "email", Where: s} }

func bonds() []api.Bond {
	return []api.Bond{{Who: mail("a@b.c"), Mxid: "@a:h"}, {Who: mail("b@b.c"), Mxid: "@b:h"}, {Who: api.Address{Medium: "msisdn", Where: "123456"}, Mxid: "@a:h"}}
}

func TestHash(t *testing.T) {
	for _, x := range []struct {
		pepper string
		who    api.Address
		text   string
	}{{"p", mail("a@b.c"), "a@b.c email p"}, {"", api.Address{}, "  "}, {"a b\xff", mail("\x00"), "\x00 email a b\xff"}} {
		sum := sha256.Sum256([]byte(x.text))
		if Hash(x.pepper, x.who) != base64.RawURLEncoding.EncodeToString(sum[:]) {
			t.Error(x)
		}
	}
}

func TestPepper(t *testing.T) {
	for s, want := range map[string]bool{"p": true, strings.Repeat("~", 64): true, "": false, "a b": false, "\x7f": false, strings.Repeat("~", 65): false} {
		v, e := Details(s)
		if Pepper(s) != want || want != (e == api.OK) || !want && (e != api.ErrArg || !json.Same(v, api.Value{})) {
			t.Error(s, e)
		}
		if want && show(v) != `{"algorithms":["none","sha256"],"lookup_pepper":"`+s+`"}` {
			t.Error(show(v))
		}
	}
}

// P19.1 and P19.2: just what is asked for, and bound, is told.
func TestLookup(t *testing.T) {
	l := bonds()
	one, two := Hash("p", l[0].Who), Hash("p", l[2].Who)
	for i, x := range []struct {
		algorithm string
		addresses []string
		want      string
	}{
		{"none", []string{"a@b.c email"}, `{"a@b.c email":"@a:h"}`},
		{"none", []string{"b@b.c email", "123456 msisdn", "b@b.c email"}, `{"123456 msisdn":"@a:h","b@b.c email":"@b:h"}`},
		{"none", []string{"email a@b.c", "a@b.c", "z@b.c email", "A@b.c email", one, "", "\xff"}, `{}`},
		{"none", nil, `{}`},
		{"sha256", []string{"a@b.c email", Hash("q", l[0].Who), one + "="}, `{}`},
		{"sha256", []string{one}, `{"` + one + `":"@a:h"}`},
	} {
		v, e := Lookup(l, "p", api.Question{Algorithm: x.algorithm, Pepper: "p", Addresses: x.addresses})
		if e != api.OK || !json.Right(v) || show(v) != x.want {
			t.Error(i, show(v), e)
		}
	}
	v, e := Lookup(l, "p", api.Question{Algorithm: "sha256", Pepper: "p", Addresses: []string{two, one}})
	if e != api.OK || !json.Right(v) || len(v.Names) != 2 || !slices.Contains(v.Names, two) {
		t.Error(show(v), e)
	}
}

func TestErrors(t *testing.T) {
	many := make([]string, 33)
	for i := range many {
		many[i] = strconv.Itoa(i)
	}
	wrong := []api.Bond{{}}
	for i, x := range []struct {
		l      []api.Bond
		pepper string
		q      api.Question
		want   api.Errno
	}{
		{wrong, "p", api.Question{Algorithm: "none", Pepper: "q"}, api.ErrArg}, {nil, "", api.Question{Algorithm: "none"}, api.ErrArg}, {nil, "p", api.Question{Algorithm: "", Pepper: "q"}, api.ErrArg}, {nil, "p", api.Question{Algorithm: "SHA256", Pepper: "p"}, api.ErrArg},
		{nil, "p", api.Question{Algorithm: "none", Pepper: "q", Addresses: many}, api.ErrPepper}, {nil, "p", api.Question{Algorithm: "none"}, api.ErrPepper},
		{bonds(), "p", api.Question{Algorithm: "none", Pepper: "p", Addresses: many}, api.ErrMany}, {nil, "p", api.Question{Algorithm: "none", Pepper: "p", Addresses: many[:32]}, api.OK},
	} {
		v, e := Lookup(x.l, x.pepper, x.q)
		if e != x.want || e != api.OK && !json.Same(v, api.Value{}) {
			t.Error(i, e)
		}
	}
	if !slices.IsSortedFunc(many, func(a, b string) int { x, _ := strconv.Atoi(a); y, _ := strconv.Atoi(b); return x - y }) {
		t.Error("handed in")
	}
}
