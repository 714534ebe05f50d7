package address

import (
	"strings"
	"testing"

	"vouchsafe/api"
)

func rep(s string, n int) string { return strings.Repeat(s, n) }

// P6.1: email addresses, by their edges.
func TestEmail(t *testing.T) {
	all := "azAZ09!#$%&'*+/=?^_`{|}~-.x"
	for in, want := range map[string]string{
		" Anna@Example.org": "anna@example.org", "a@b.c  ": "a@b.c", all + "@H-1.x": strings.ToLower(all) + "@h-1.x",
		rep("a", 64) + "@b.c": rep("a", 64) + "@b.c", rep("a", 23) + "@" + rep("b", 228) + ".c": rep("a", 23) + "@" + rep("b", 228) + ".c",
		"-a-@b.c": "-a-@b.c",
	} {
		if s, e := Email(in); s != want || e != api.OK {
			t.Error(in, s, e)
		}
		if s, e := Email(want); s != want || e != api.OK {
			t.Error(want, s, e)
		}
		if a, e := Make("email", in); e != api.OK || !Right(a) || Right(api.Address{Medium: "email", Where: in}) != (in == want) {
			t.Error(in, a, e)
		}
	}
	for _, s := range []string{"", " ", "@", "a", "a@b", "a@", "@b.c", "a@b.c.", "a@.b.c", "a@b..c", "a@b.c:1", "a@b@c.d", ".a@b.c", "a.@b.c", "a..b@c.d", "a b@c.d", "a @b.c", "\ta@b.c", "a@b.c\n", "a,b@c.d", "é@b.c", "a@é.c", "a\"@b.c", rep("a", 65) + "@b.c", rep("a", 24) + "@" + rep("b", 228) + ".c", "a@b_.c", "a@" + rep("b", 229) + ".c", "a@-b.c"} {
		if r, e := Email(s); r != "" || e != api.ErrForm {
			t.Error(s, r, e)
		}
		if a, e := Make("email", s); a != (api.Address{}) || e != api.ErrForm {
			t.Error(s, a, e)
		}
	}
}

func TestPhone(t *testing.T) {
	for _, x := range []struct {
		country, number, want string
		e                     api.Errno
	}{
		{"GB", "020 7946 0000", "442079460000", 0}, {"", "+44 (20) 7946-0000", "442079460000", 0}, {"GB", "20.7946.0000", "442079460000", 0},
		{"GB", "0020 7946", "440207946", 0}, {"US", "0123456", "10123456", 0}, {"US", "(555) 123-4567", "15551234567", 0},
		{"DE", "030 1234", "49301234", 0}, {"FR", "01 23 45", "3312345", 0}, {"CH", "044 1234", "41441234", 0},
		{"DE", "+44 20 7946", "44207946", 0}, {"DE", "(+44) 20 7946", "44207946", 0}, {"DE", "- .(+)442079", "442079", 0},
		{"", "123456", "123456", 0}, {"", "123456789012345", "123456789012345", 0},
		{"", "12345", "", api.ErrForm}, {"", "1234567890123456", "", api.ErrForm}, {"", "012345678", "", api.ErrForm}, {"DE", "+0123456", "", api.ErrForm},
		{"", "", "", api.ErrForm}, {"", "+", "", api.ErrForm}, {"", "()", "", api.ErrForm}, {"GB", "", "", api.ErrForm}, {"GB", "0123", "", api.ErrForm}, {"GB", "01234", "441234", 0},
		{"", "++123456", "", api.ErrForm}, {"", "1+23456", "", api.ErrForm}, {"", "123456+", "", api.ErrForm}, {"", "+123456+", "", api.ErrForm},
		{"", "123456a", "", api.ErrForm}, {"", "123456/7", "", api.ErrForm}, {"", "\t123456", "", api.ErrForm}, {"", "12345\xd9\xa0", "", api.ErrForm},
		{"gb", "020 7946 0000", "", api.ErrNone}, {"IT", "x", "", api.ErrNone}, {" ", "123456", "", api.ErrNone}, {"GB ", "123456", "", api.ErrNone},
	} {
		s, e := Phone(x.country, x.number)
		if s != x.want || e != x.e {
			t.Error(x, s, e)
		}
		if e == api.OK {
			if r, f := Phone("", s); r != s || f != api.OK || !Right(api.Address{Medium: "msisdn", Where: s}) {
				t.Error(s, r, f)
			}
		}
	}
}

func TestMake(t *testing.T) {
	if a, e := Make("msisdn", "+44 20 7946-0000"); e != api.OK || a != (api.Address{Medium: "msisdn", Where: "442079460000"}) || Text(a) != "msisdn 442079460000" {
		t.Error(a, e)
	}
	for _, m := range []string{"", "Email", "phone", "email "} {
		if a, e := Make(m, "a@b.c"); e != api.ErrArg || a != (api.Address{}) {
			t.Error(m, a, e)
		}
	}
	for _, a := range []api.Address{{}, {Medium: "email", Where: "A@b.c"}, {Medium: "email", Where: " a@b.c"}, {Medium: "msisdn", Where: "+442079460000"}, {Medium: "msisdn", Where: "44 2079460000"}, {Medium: "msisdn", Where: "a@b.c"}, {Medium: "email", Where: "442079460000"}} {
		if Right(a) {
			t.Error(a)
		}
	}
}

func TestLess(t *testing.T) {
	l := []api.Address{{}, {Medium: "email"}, {Medium: "email", Where: "a"}, {Medium: "email", Where: "aa"}, {Medium: "email", Where: "b"}, {Medium: "msisdn", Where: "1"}, {Medium: "x", Where: ""}}
	for i := range l {
		for j := range l {
			if Less(l[i], l[j]) != (i < j) {
				t.Error(l[i], l[j])
			}
		}
	}
}
