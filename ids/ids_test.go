package ids

import (
	"strings"
	"testing"

	"vouchsafe/api"
)

func rep(s string, n int) string { return strings.Repeat(s, n) }

// P5.1: names of servers, by their edges.
func TestServer(t *testing.T) {
	for _, s := range []string{"h", "H", "1", "AZaz09", "a.b", "a-b", "a--b", "a.-b", "example.org:8448", "h:1", "h:00000", "h:99999", rep("a", 230), rep("a", 230) + ":12345"} {
		if !Server(s) {
			t.Error(s)
		}
	}
	for _, s := range []string{"", ":", ":1", "h:", "h:123456", "h:1:2", "h:a", "h:-1", ".a", "a.", "-a", "a-", "a..b", "a_b", "a b", "é", "a\x00", rep("a", 231), "h:1 "} {
		if Server(s) {
			t.Error(s)
		}
	}
}

func TestUserAndRoom(t *testing.T) {
	users := []string{"@a:h", "@a.b:example.org:8448", "@._=/+-09az:h", "@" + rep("a", 200) + ":" + rep("h", 53), "@" + rep("a", 19) + ":" + rep("h", 230) + ":123", "@=:h"}
	rooms := []string{"!x:h", "!Xy9:h:1", "!" + rep("x", 64) + ":" + rep("h", 189), "!" + rep("x", 19) + ":" + rep("h", 230) + ":123"}
	for _, s := range users {
		if !User(s) || Room(s) || Event(s) || Server(s) {
			t.Error(s)
		}
		if len(s) == 255 && User("@a"+s[1:]) {
			t.Error("256", s)
		}
	}
	for _, s := range rooms {
		if !Room(s) || User(s) || Event(s) || Server(s) {
			t.Error(s)
		}
	}
	for _, s := range []string{"", "@", "!", "@:h", "!:h", "@a", "@a:", "@A:h", "@a:h..x", "@a b:h", "@a@b:h", "@" + rep("a", 201) + ":h", "@" + rep("a", 200) + ":" + rep("h", 54), "!a_b:h", "!a.b:h", "!" + rep("x", 65) + ":h", "#a:h", "a:h", "@a:h:x", "@é:h", "!x:" + rep("h", 231)} {
		if User(s) || Room(s) {
			t.Error(s)
		}
		if l, m, e := Split(s); l != "" || m != "" || e != api.ErrForm {
			t.Error(s, l, m, e)
		}
	}
}

// P5.2: what is joined is split as it was, and the other way round.
func TestSplitAndJoin(t *testing.T) {
	for _, x := range []struct {
		sigil         byte
		local, server string
	}{{'@', "a.b", "example.org:8448"}, {'!', "Xy", "h"}, {'@', "=", "H-1.x"}, {'!', rep("x", 64), rep("h", 189)}} {
		s, e := Join(x.sigil, x.local, x.server)
		l, m, f := Split(s)
		if e != api.OK || f != api.OK || l != x.local || m != x.server {
			t.Error(x, s, e, l, m, f)
		}
		if u, e := Join(s[0], l, m); u != s || e != api.OK {
			t.Error(s, u, e)
		}
	}
	for _, x := range []struct {
		sigil         byte
		local, server string
	}{{'@', "a:h", "1"}, {'@', "", "h"}, {'@', "a", ""}, {'$', "a", "h"}, {'@', "A", "h"}, {'!', "a.b", "h"}, {0xff, "a", "h"}, {'@', "a", "h:1:2"}, {'!', rep("x", 64), rep("h", 190)}} {
		if s, e := Join(x.sigil, x.local, x.server); s != "" || e != api.ErrForm {
			t.Error(x, s, e)
		}
	}
}

func TestEvent(t *testing.T) {
	for _, x := range []struct {
		b    []byte
		want string
	}{{make([]byte, 32), "$" + rep("A", 43)}, {[]byte(rep("\xff", 32)), "$" + rep("_", 42) + "8"}} {
		s, e := Name(x.b)
		if e != api.OK || s != x.want || !Event(s) || User(s) || Room(s) || Server(s) {
			t.Error(s, e)
		}
	}
	for _, n := range []int{0, 31, 33, 64} {
		if s, e := Name(make([]byte, n)); s != "" || e != api.ErrArg {
			t.Error(n, s, e)
		}
	}
	good := "$" + rep("A", 43)
	for _, s := range []string{"", "$", good[1:], good + "A", good[:43], "$" + rep("A", 42) + "B", "$" + rep("A", 42) + "/", "$" + rep("A", 42) + "=", "@" + rep("A", 43), "$" + rep("A", 44)} {
		if Event(s) {
			t.Error(s)
		}
	}
}
