package homesrv

import (
	"slices"

	"vouchsafe/api"
	"vouchsafe/block"
	"vouchsafe/event"
	"vouchsafe/ids"
	"vouchsafe/json"
	"vouchsafe/room"
	"vouchsafe/rule"
	"vouchsafe/tree"
)

// The types of events that a homeserver makes of itself.
const (
	ofCreation = "m.room.create"
	ofMember   = "m.room.member"
	ofLevels   = "m.room.power_levels"
	ofThird    = "m.room.third_party_invite"
)

const creatorLevel = 100

// desk follows an order: the homeserver that it works on.
type desk struct {
	api.Home
}

func failed(e api.Errno) api.Result {
	return api.Result{Code: e}
}

func (d *desk) follow(o api.Order) api.Result {
	switch o.Kind {
	case api.OrdCreate:
		return d.create(o)
	case api.OrdSend:
		return d.send(o)
	case api.OrdThird:
		return d.third(o, object(text("display_name", o.Key), text("public_key", o.Public)))
	case api.OrdRevoke:
		return d.third(o, object())
	case api.OrdBound:
		return d.bound(o)
	case api.OrdExchange:
		return d.exchange(o)
	case api.OrdEvent:
		return d.event(o.Event)
	}
	return failed(api.ErrArg)
}

func text(name, s string) api.Pair {
	return tree.Pair(name, tree.Text(s))
}

// object is made of pairs; of some that make none it is no object, which no event takes.
func object(pairs ...api.Pair) api.Value {
	v, _ := json.Make(pairs...)
	return v
}

// make makes an event of some fields in a room, and tells the room behind it.
func (d *desk) make(r api.Room, e api.Event) (api.Room, api.Event, api.Errno) {
	e.Time = d.Now
	e, fault := event.Build(room.Draft(r, e), d.Signer)
	if fault != api.OK {
		return r, api.Event{}, fault
	}
	after, fault := room.Receive(r, e)
	if fault != api.OK {
		return r, api.Event{}, fault
	}
	return after, e, api.OK
}

// put is the rooms with one at a place, or behind all.
func (d *desk) put(at int, r api.Room) {
	d.Rooms = slices.Clone(d.Rooms)
	if at == len(d.Rooms) {
		d.Rooms = append(d.Rooms, r)
		return
	}
	d.Rooms[at] = r
}

func (d *desk) create(o api.Order) api.Result {
	if !Own(d.Home, o.User) || !ids.Room(o.Room) || server(o.Room) != d.Signer.Server {
		return failed(api.ErrArg)
	}
	if _, there := place(d.Home, o.Room); there {
		return failed(api.ErrTwice)
	}
	if len(d.Rooms) >= maxRooms {
		return failed(api.ErrFull)
	}
	first := []api.Event{
		{Type: ofCreation, Content: object(text("creator", o.User))},
		{Type: ofMember, Key: o.User, Content: object(text("membership", "join"))},
		{Type: ofLevels, Content: object(tree.Pair("users", object(tree.Pair(o.User, tree.Number(creatorLevel)))))},
	}
	var r api.Room
	var made []api.Event
	for _, e := range first {
		e.Room, e.Sender, e.State = o.Room, o.User, true
		after, e, fault := d.make(r, e)
		if fault != api.OK {
			return failed(fault)
		}
		r, made = after, append(made, e)
	}
	d.put(len(d.Rooms), r)
	return api.Result{Events: made}
}

// say makes an event in the room that it names.
func (d *desk) say(e api.Event) api.Result {
	at, there := place(d.Home, e.Room)
	if !there {
		return failed(api.ErrNone)
	}
	r, made, fault := d.make(d.Rooms[at], e)
	if fault != api.OK {
		return failed(fault)
	}
	d.put(at, r)
	return api.Result{Events: []api.Event{made}}
}

func (d *desk) send(o api.Order) api.Result {
	if !Own(d.Home, o.User) {
		return failed(api.ErrArg)
	}
	return d.say(api.Event{Room: o.Room, Sender: o.User, Type: o.Type, State: o.State, Key: o.Key, Content: o.Content})
}

// third makes an invite of an address: of no content, it takes it back.
func (d *desk) third(o api.Order, content api.Value) api.Result {
	if !Own(d.Home, o.User) {
		return failed(api.ErrArg)
	}
	return d.say(api.Event{Room: o.Room, Sender: o.User, Type: ofThird, State: true, Key: o.Token, Content: content})
}

func (d *desk) bound(o api.Order) api.Result {
	if !Own(d.Home, o.User) {
		return failed(api.ErrArg)
	}
	if !Block(o.Content, o.User) {
		return failed(api.ErrForm)
	}
	b, _ := block.Read(o.Content)
	return api.Result{Trade: api.Trade{Server: server(b.Sender), Room: o.Room, User: o.User, Block: o.Content}}
}

func (d *desk) exchange(o api.Order) api.Result {
	if !Block(o.Content, o.User) {
		return failed(api.ErrForm)
	}
	b, _ := block.Read(o.Content)
	at, there := place(d.Home, o.Room)
	if !there {
		return failed(api.ErrNone)
	}
	if e, claimed := d.claimed(d.Rooms[at], o.Room, b.Token); claimed {
		return api.Result{Events: []api.Event{e}}
	}
	third, there := rule.At(room.Current(d.Rooms[at]), api.Slot{Type: ofThird, Key: b.Token})
	if !there {
		return failed(api.ErrNone)
	}
	if !Own(d.Home, third.Sender) {
		return failed(api.ErrArg)
	}
	content, fault := json.Make(text("membership", "invite"), tree.Pair("third_party_invite", object(tree.Pair("signed", o.Content))))
	if fault != api.OK || json.Deep(o.Content)+2 > api.MaxNest {
		return failed(api.ErrArg)
	}
	result := d.say(api.Event{Room: o.Room, Sender: third.Sender, Type: ofMember, State: true, Key: o.User, Content: content})
	if result.Code == api.OK {
		claim := api.Claim{Room: o.Room, Token: b.Token, Event: result.Events[0].ID}
		d.Claims = append(slices.Clip(d.Claims), claim)
	}
	return result
}

// claimed is the event that a room's token became.
func (d *desk) claimed(r api.Room, name, token string) (api.Event, bool) {
	for _, c := range d.Claims {
		if c.Room != name || c.Token != token {
			continue
		}
		at := slices.IndexFunc(r.Events, func(e api.Event) bool { return e.ID == c.Event })
		if at >= 0 {
			return r.Events[at], true
		}
	}
	return api.Event{}, false
}

// event takes one that comes from another server.
func (d *desk) event(e api.Event) api.Result {
	if !event.Right(e) {
		return failed(api.ErrArg)
	}
	from := slices.IndexFunc(d.Peers, func(p api.Peer) bool { return p.Server == event.Server(e) })
	if from < 0 {
		return failed(api.ErrAuth)
	}
	p := d.Peers[from]
	if fault := event.Verify(e, api.Signer{Server: p.Server, Key: p.Key}, p.Public); fault != api.OK {
		return failed(fault)
	}
	at, there := place(d.Home, e.Room)
	var r api.Room
	if there {
		r = d.Rooms[at]
	} else if at = len(d.Rooms); at >= maxRooms {
		return failed(api.ErrFull)
	}
	r, fault := room.Receive(r, e)
	if len(r.Events) > 0 {
		d.put(at, r)
	}
	return failed(fault)
}
