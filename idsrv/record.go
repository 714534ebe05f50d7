package idsrv

import (
	"bytes"
	"slices"

	"vouchsafe/api"
	"vouchsafe/canon"
	"vouchsafe/json"
	"vouchsafe/tree"
)

// The texts that records begin with.
const (
	ofAsk     = "a"
	ofMain    = "m"
	ofSession = "s"
	ofUser    = "u"
	ofBond    = "b"
	ofPledge  = "p"
)

func flag(b bool) api.Value {
	if b {
		return tree.Number(1)
	}
	return tree.Number(0)
}

// record is the text of a list.
func record(items ...api.Value) ([]byte, api.Errno) {
	s, e := canon.Print(api.Value{Kind: api.List, Items: items})
	if e != api.OK {
		return nil, e
	}
	if len(s) > api.MaxRecord {
		return nil, api.ErrLong
	}
	return []byte(s), api.OK
}

// Record is a question's record.
func Record(a api.Ask) ([]byte, api.Errno) {
	return record(tree.Text(ofAsk), tree.Number(a.Kind), tree.Text(a.Token), tree.Text(a.Secret), tree.Text(a.Medium), tree.Text(a.Where), tree.Text(a.Mxid),
		tree.Text(a.Room), tree.Text(a.Sender), tree.Number(a.ID), tree.Number(a.Attempt), tree.Text(a.Code), tree.Number(a.N), tree.Texts(a.Docs...), tree.Texts(a.Draws...),
		tree.Text(a.Question.Algorithm), tree.Text(a.Question.Pepper), tree.Texts(a.Question.Addresses...))
}

// row is what is left to be read of a record; wrong, once an item wasn't as it was asked for.
type row struct {
	items []api.Value
	wrong bool
}

func (r *row) next(kind int) api.Value {
	if len(r.items) == 0 || r.items[0].Kind != kind {
		r.wrong = true
		return api.Value{}
	}
	v := r.items[0]
	r.items = r.items[1:]
	return v
}

func (r *row) text() string { return r.next(api.Text).Text }
func (r *row) number() int  { return r.next(api.Number).Num }
func (r *row) flag() bool   { return r.number() == 1 }

func (r *row) texts() []string {
	inside := row{items: r.next(api.List).Items}
	var l []string
	for len(inside.items) > 0 && !inside.wrong {
		l = append(l, inside.text())
	}
	r.wrong = r.wrong || inside.wrong
	return l
}

// done: was all of it read, and as it was asked for?
func (r *row) done() bool {
	return !r.wrong && len(r.items) == 0
}

// open is a record's row, and the text that it begins with.
func open(b []byte) (*row, string) {
	v, e := json.Parse(string(b))
	r := &row{items: v.Items, wrong: e != api.OK || v.Kind != api.List}
	return r, r.text()
}

// Read is a record's question.
func Read(b []byte) (api.Ask, api.Errno) {
	r, kind := open(b)
	a := api.Ask{
		Kind: r.number(), Token: r.text(), Secret: r.text(), Medium: r.text(), Where: r.text(), Mxid: r.text(),
		Room: r.text(), Sender: r.text(), ID: r.number(), Attempt: r.number(), Code: r.text(), N: r.number(), Docs: r.texts(), Draws: r.texts(),
		Question: api.Question{Algorithm: r.text(), Pepper: r.text(), Addresses: r.texts()},
	}
	// Recorded again, it shows whether it was written in the one way.
	again, e := Record(a)
	if kind != ofAsk || !r.done() || e != api.OK || !bytes.Equal(again, b) {
		return api.Ask{}, api.ErrForm
	}
	return a, api.OK
}

// Pack is a state's records.
func Pack(s api.Identity) ([][]byte, api.Errno) {
	if !rightState(s) {
		return nil, api.ErrArg
	}
	rows := [][]api.Value{{tree.Text(ofMain), tree.Number(s.Now), tree.Text(s.Pepper)}}
	for _, x := range s.Sessions {
		rows = append(rows, []api.Value{tree.Text(ofSession), tree.Number(x.ID), tree.Text(x.Secret), tree.Text(x.Who.Medium), tree.Text(x.Who.Where), tree.Text(x.Token),
			tree.Number(x.Attempt), tree.Number(x.Since), tree.Number(x.Wrong), flag(x.Shown), tree.Number(x.ShownAt)})
	}
	for _, x := range s.Users {
		rows = append(rows, []api.Value{tree.Text(ofUser), tree.Text(x.Token), tree.Text(x.Mxid), tree.Texts(x.Agreed...)})
	}
	for _, x := range s.Bonds {
		rows = append(rows, []api.Value{tree.Text(ofBond), tree.Text(x.Who.Medium), tree.Text(x.Who.Where), tree.Text(x.Mxid), tree.Number(x.Since)})
	}
	for _, x := range s.Pledges {
		rows = append(rows, []api.Value{tree.Text(ofPledge), tree.Text(x.Token), tree.Text(x.Who.Medium), tree.Text(x.Who.Where), tree.Text(x.Room), tree.Text(x.Sender), tree.Text(x.Seed), tree.Text(x.Bound)})
	}
	var l [][]byte
	for _, items := range rows {
		b, e := record(items...)
		if e != api.OK {
			return nil, e
		}
		l = append(l, b)
	}
	return l, api.OK
}

func (r *row) address() api.Address {
	return api.Address{Medium: r.text(), Where: r.text()}
}

// take reads a row into a state; false, if it is none of a state's.
func take(s *api.Identity, r *row, kind string) bool {
	switch kind {
	case ofMain:
		s.Now, s.Pepper = r.number(), r.text()
	case ofSession:
		s.Sessions = append(s.Sessions, api.Session{ID: r.number(), Secret: r.text(), Who: r.address(), Token: r.text(),
			Attempt: r.number(), Since: r.number(), Wrong: r.number(), Shown: r.flag(), ShownAt: r.number()})
	case ofUser:
		s.Users = append(s.Users, api.User{Token: r.text(), Mxid: r.text(), Agreed: r.texts()})
	case ofBond:
		s.Bonds = append(s.Bonds, api.Bond{Who: r.address(), Mxid: r.text(), Since: r.number()})
	case ofPledge:
		s.Pledges = append(s.Pledges, api.Pledge{Token: r.text(), Who: r.address(), Room: r.text(), Sender: r.text(), Seed: r.text(), Bound: r.text()})
	default:
		return false
	}
	return r.done()
}

// unpackState reads the state that records begin with, and tells how many they are.
func unpackState(records [][]byte) (api.Identity, int, bool) {
	var s api.Identity
	n := 0
	for _, b := range records {
		if r, kind := open(b); !take(&s, r, kind) {
			break
		}
		n++
	}
	// Packed again, it shows their order, and that they were written in the one way.
	again, e := Pack(s)
	return s, n, e == api.OK && slices.EqualFunc(again, records[:n], bytes.Equal)
}

// Unpack is the state of records.
func Unpack(h api.House, records [][]byte) (api.Identity, api.Errno) {
	s, n, ok := unpackState(records)
	if !ok || !Right(h) {
		return api.Identity{}, api.ErrDamage
	}
	for _, b := range records[n:] {
		a, e := Read(b)
		if e != api.OK {
			return api.Identity{}, api.ErrDamage
		}
		s, _ = Step(h, s, a)
	}
	return s, api.OK
}
