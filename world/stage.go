package world

import (
	"slices"

	"vouchsafe/address"
	"vouchsafe/api"
	"vouchsafe/base"
	"vouchsafe/block"
	"vouchsafe/edsig"
	"vouchsafe/homesrv"
	"vouchsafe/ids"
	"vouchsafe/idsrv"
	"vouchsafe/json"
	"vouchsafe/lookup"
	"vouchsafe/plain"
	"vouchsafe/pledge"
	"vouchsafe/tree"
)

// stage is where an act is done: the world that it changes.
type stage struct {
	api.World
}

func failed(e api.Errno) api.Told {
	return api.Told{Code: e}
}

// send lays a letter behind all that are under way; where there is no room, it is lost.
func (s *stage) send(l api.Letter) {
	if len(s.Net) < api.MaxNet {
		s.Net = append(slices.Clip(s.Net), l)
	}
}

// spread sends events to all other homeservers.
func (s *stage) spread(from int, events []api.Event) {
	for _, e := range events {
		for i, h := range s.Homes {
			if i != from {
				s.send(api.Letter{To: h.Signer.Server, Kind: api.LetEvent, Event: e})
			}
		}
	}
}

// step lets a homeserver follow an order, and spreads what it made.
func (s *stage) step(at int, o api.Order) api.Result {
	h, result := homesrv.Step(s.Homes[at], o)
	s.Homes = slices.Clone(s.Homes)
	s.Homes[at] = h
	s.spread(at, result.Events)
	return result
}

// question goes to the identity server; mails and blocks go out.
func (s *stage) question(a api.Ask) api.Answer {
	id, answer := idsrv.Do(s.House, s.ID, a)
	s.ID = id
	if answer.Mail.Token != "" {
		s.Mails = append(slices.Clip(s.Mails), answer.Mail)
	}
	for _, v := range answer.Blocks {
		b, _ := block.Read(v)
		p, _ := pledge.Find(s.ID.State.Pledges, b.Token)
		_, server, _ := ids.Split(b.Mxid)
		s.send(api.Letter{To: server, Kind: api.LetBound, Room: p.Room, User: b.Mxid, Block: v})
	}
	return answer
}

func (s *stage) ask(a api.Act) api.Told {
	answer := s.question(a.Ask)
	return api.Told{Code: answer.Code, Text: answer.Text}
}

func (s *stage) order(a api.Act) api.Told {
	at, there := place(s.World, a.N)
	if !there || a.Order.Kind < api.OrdCreate || a.Order.Kind > api.OrdRevoke {
		return failed(api.ErrArg)
	}
	return failed(s.step(at, a.Order).Code)
}

func (s *stage) invite(a api.Act) api.Told {
	at, there := place(s.World, a.N)
	if !there || !homesrv.Own(s.Homes[at], a.Order.User) {
		return failed(api.ErrArg)
	}
	who, e := address.Make(a.Ask.Medium, a.Ask.Where)
	if e != api.OK {
		return failed(e)
	}
	user, e := s.whose(a.Ask.Token, who)
	if e != api.OK {
		return failed(e)
	}
	if user != "" && user != a.Order.User {
		return failed(s.inviteUser(at, a.Order, user))
	}
	return s.inviteAddress(at, a)
}

// whose asks whose an address is; empty, where it is nobody's.
func (s *stage) whose(token string, who api.Address) (string, api.Errno) {
	details := s.question(api.Ask{Kind: api.AskDetails, Token: token})
	if details.Code != api.OK {
		return "", details.Code
	}
	pepper, _ := json.Get(details.Value, "lookup_pepper")
	hash := lookup.Hash(pepper.Text, who)
	q := api.Question{Algorithm: "sha256", Pepper: pepper.Text, Addresses: []string{hash}}
	answer := s.question(api.Ask{Kind: api.AskLookup, Token: token, Question: q})
	if answer.Code != api.OK {
		return "", answer.Code
	}
	user, _ := json.Get(answer.Value, hash)
	return user.Text, api.OK
}

// inviteUser invites one who is known.
func (s *stage) inviteUser(at int, o api.Order, user string) api.Errno {
	content, e := json.Make(tree.Pair("membership", tree.Text("invite")))
	if e != api.OK {
		return e
	}
	return s.step(at, api.Order{Kind: api.OrdSend, User: o.User, Room: o.Room, Type: "m.room.member", State: true, Key: user, Content: content}).Code
}

// inviteAddress lets an invite wait at the identity server, and tells the room of it.
func (s *stage) inviteAddress(at int, a api.Act) api.Told {
	stored := s.question(api.Ask{Kind: api.AskStore, Token: a.Ask.Token, Medium: a.Ask.Medium, Where: a.Ask.Where, Room: a.Order.Room, Sender: a.Order.User, Draws: a.Ask.Draws})
	if stored.Code != api.OK {
		return failed(stored.Code)
	}
	key := edsig.Public(s.House.Signer.Seed)
	result := s.step(at, api.Order{Kind: api.OrdThird, User: a.Order.User, Room: a.Order.Room, Token: stored.Text, Public: base.Encode(key[:])})
	return api.Told{Code: result.Code, Text: stored.Text}
}

// letter is the place of the letter of a number.
func (s *stage) letter(n int) (int, api.Errno) {
	if n < 0 {
		return 0, api.ErrArg
	}
	if len(s.Net) == 0 {
		return 0, api.ErrNone
	}
	return n % len(s.Net), api.OK
}

// take takes a letter off.
func (s *stage) take(at int) api.Letter {
	l := s.Net[at]
	s.Net = slices.Delete(slices.Clone(s.Net), at, at+1)
	return l
}

// order is what a letter asks of a homeserver; its kind is 0, where that is nothing.
func order(l api.Letter) api.Order {
	o := api.Order{User: l.User, Room: l.Room, Content: l.Block, Event: l.Event}
	switch l.Kind {
	case api.LetBound:
		o.Kind = api.OrdBound
	case api.LetExchange:
		o.Kind = api.OrdExchange
	case api.LetEvent:
		o.Kind = api.OrdEvent
	}
	return o
}

func (s *stage) deliver(a api.Act) api.Told {
	n, e := s.letter(a.N)
	if e != api.OK {
		return failed(e)
	}
	l := s.take(n)
	at := slices.IndexFunc(s.Homes, func(h api.Home) bool { return h.Signer.Server == l.To })
	if at < 0 {
		return failed(api.ErrNone)
	}
	o := order(l)
	if o.Kind == 0 {
		return failed(api.ErrArg)
	}
	result := s.step(at, o)
	if result.Code == api.OK && l.Kind == api.LetBound {
		t := result.Trade
		s.send(api.Letter{To: t.Server, Kind: api.LetExchange, Room: t.Room, User: t.User, Block: t.Block})
	}
	return failed(result.Code)
}

func (s *stage) again(a api.Act) api.Told {
	n, e := s.letter(a.N)
	if e == api.OK {
		s.send(s.Net[n])
	}
	return failed(e)
}

func (s *stage) lose(a api.Act) api.Told {
	n, e := s.letter(a.N)
	if e == api.OK {
		s.take(n)
	}
	return failed(e)
}

func (s *stage) forge(a api.Act) api.Told {
	s.send(a.Letter)
	return api.Told{}
}

func (s *stage) tick(a api.Act) api.Told {
	if !plain.Number(a.N, 0) {
		return failed(api.ErrArg)
	}
	if answer := s.question(api.Ask{Kind: api.AskTick, N: a.N}); answer.Code != api.OK {
		return failed(answer.Code)
	}
	s.Homes = slices.Clone(s.Homes)
	for i := range s.Homes {
		s.Homes[i].Now = min(s.Homes[i].Now+a.N, plain.Most)
	}
	return api.Told{}
}

func (s *stage) crash(a api.Act) api.Told {
	id, e := idsrv.Crash(s.House, s.ID, a.Fates, a.M)
	s.ID = id
	return failed(e)
}

func (s *stage) arm(a api.Act) api.Told {
	s.ID.Disk.Fuse = max(a.N, -1)
	return api.Told{}
}

func (s *stage) sync(a api.Act) api.Told {
	to, there := place(s.World, a.N)
	from, known := place(s.World, a.M)
	if !there || !known || to == from {
		return failed(api.ErrArg)
	}
	r, there := homesrv.Room(s.Homes[from], a.Order.Room)
	if !there {
		return failed(api.ErrNone)
	}
	for _, e := range r.Events {
		s.step(to, api.Order{Kind: api.OrdEvent, Event: e})
	}
	return api.Told{}
}
