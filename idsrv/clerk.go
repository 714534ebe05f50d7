package idsrv

import (
	"strconv"

	"vouchsafe/account"
	"vouchsafe/address"
	"vouchsafe/api"
	"vouchsafe/base"
	"vouchsafe/bond"
	"vouchsafe/edsig"
	"vouchsafe/json"
	"vouchsafe/lookup"
	"vouchsafe/plain"
	"vouchsafe/pledge"
	"vouchsafe/session"
	"vouchsafe/tree"
)

// clerk answers questions: the state that it works on, and the house it works for.
type clerk struct {
	api.Identity
	house api.House
}

type answerer func(*clerk, api.Ask) api.Answer

// answers is which answer a kind of question has.
func answers() map[int]answerer {
	return map[int]answerer{
		api.AskRegister:  (*clerk).register,
		api.AskLogout:    (*clerk).logout,
		api.AskAgree:     (*clerk).agree,
		api.AskRequest:   (*clerk).request,
		api.AskSubmit:    (*clerk).submit,
		api.AskValidated: (*clerk).validated,
		api.AskBind:      (*clerk).bind,
		api.AskUnbind:    (*clerk).unbind,
		api.AskDetails:   (*clerk).details,
		api.AskLookup:    (*clerk).lookup,
		api.AskStore:     (*clerk).store,
		api.AskValid:     (*clerk).valid,
		api.AskPepper:    (*clerk).pepper,
		api.AskTick:      (*clerk).tick,
		api.AskBlock:     (*clerk).block,
	}
}

func failed(e api.Errno) api.Answer {
	return api.Answer{Code: e}
}

// draw is one of what was drawn; an empty text, where there is none.
func draw(a api.Ask, at int) string {
	if at >= len(a.Draws) {
		return ""
	}
	return a.Draws[at]
}

// agreed is who asks, if they agreed to all terms.
func (c *clerk) agreed(a api.Ask) (string, api.Errno) {
	mxid, e := account.Whose(c.Users, a.Token)
	if e == api.OK {
		e = account.Agreed(c.Users, a.Token, c.house.Terms...)
	}
	return mxid, e
}

// key is the signer's, as letters.
func (c *clerk) key() string {
	key := edsig.Public(c.house.Signer.Seed)
	return base.Encode(key[:])
}

func (c *clerk) register(a api.Ask) api.Answer {
	users, e := account.Register(c.Users, draw(a, 0), a.Mxid)
	if e != api.OK {
		return failed(e)
	}
	c.Users = users
	return api.Answer{Text: draw(a, 0)}
}

func (c *clerk) logout(a api.Ask) api.Answer {
	users, e := account.Logout(c.Users, a.Token)
	c.Users = users
	return failed(e)
}

func (c *clerk) agree(a api.Ask) api.Answer {
	users, e := account.Agree(c.Users, a.Token, a.Docs...)
	c.Users = users
	return failed(e)
}

func (c *clerk) request(a api.Ask) api.Answer {
	if _, e := c.agreed(a); e != api.OK {
		return failed(e)
	}
	who, e := address.Make(a.Medium, a.Where)
	if e != api.OK {
		return failed(e)
	}
	want := api.Session{ID: a.ID, Secret: a.Secret, Who: who, Token: draw(a, 0), Attempt: a.Attempt, Since: c.Now}
	sessions, id, send, e := session.Request(c.Sessions, want)
	if e != api.OK {
		return failed(e)
	}
	c.Sessions = sessions
	answer := api.Answer{Text: strconv.Itoa(id)}
	if send {
		s, _ := session.Find(sessions, id)
		answer.Mail = api.Mail{Who: s.Who, ID: s.ID, Token: s.Token}
	}
	return answer
}

func (c *clerk) submit(a api.Ask) api.Answer {
	sessions, e := session.Submit(c.Sessions, c.Now, api.Session{ID: a.ID, Secret: a.Secret, Token: a.Code})
	c.Sessions = sessions
	return failed(e)
}

// shown is the address that a question's session has shown.
func (c *clerk) shown(a api.Ask) (api.Address, api.Errno) {
	return session.Shown(c.Sessions, c.Now, api.Session{ID: a.ID, Secret: a.Secret})
}

func (c *clerk) validated(a api.Ask) api.Answer {
	if _, e := account.Whose(c.Users, a.Token); e != api.OK {
		return failed(e)
	}
	who, e := c.shown(a)
	if e != api.OK {
		return failed(e)
	}
	return api.Answer{Text: address.Text(who)}
}

func (c *clerk) bind(a api.Ask) api.Answer {
	mxid, e := c.agreed(a)
	if e != api.OK {
		return failed(e)
	}
	if mxid != a.Mxid {
		return failed(api.ErrAuth)
	}
	who, e := c.shown(a)
	if e != api.OK {
		return failed(e)
	}
	bonds, e := bond.Bind(c.Bonds, api.Bond{Who: who, Mxid: mxid, Since: c.Now})
	if e != api.OK {
		return failed(e)
	}
	pledges, settled, e := pledge.Settle(c.Pledges, who, mxid)
	if e != api.OK {
		return failed(e)
	}
	var blocks []api.Value
	for _, p := range settled {
		v, e := pledge.Block(p, c.house.Signer)
		if e != api.OK {
			return failed(e)
		}
		blocks = append(blocks, v)
	}
	c.Bonds, c.Pledges = bonds, pledges
	return api.Answer{Blocks: blocks}
}

func (c *clerk) unbind(a api.Ask) api.Answer {
	mxid, e := account.Whose(c.Users, a.Token)
	if e != api.OK {
		return failed(e)
	}
	who, e := address.Make(a.Medium, a.Where)
	if e != api.OK {
		return failed(e)
	}
	bonds, e := bond.Unbind(c.Bonds, api.Bond{Who: who, Mxid: mxid})
	c.Bonds = bonds
	return failed(e)
}

// told is an answer of a tree, or the error beside it.
func told(v api.Value, e api.Errno) api.Answer {
	if e != api.OK {
		return failed(e)
	}
	return api.Answer{Value: v}
}

func (c *clerk) details(a api.Ask) api.Answer {
	if _, e := c.agreed(a); e != api.OK {
		return failed(e)
	}
	return told(lookup.Details(c.Pepper))
}

func (c *clerk) lookup(a api.Ask) api.Answer {
	if _, e := c.agreed(a); e != api.OK {
		return failed(e)
	}
	return told(lookup.Lookup(c.Bonds, c.Pepper, a.Question))
}

func (c *clerk) store(a api.Ask) api.Answer {
	if _, e := c.agreed(a); e != api.OK {
		return failed(e)
	}
	who, e := address.Make(a.Medium, a.Where)
	if e != api.OK {
		return failed(e)
	}
	if _, bound := bond.Find(c.Bonds, who); bound {
		return failed(api.ErrTwice)
	}
	p := api.Pledge{Token: draw(a, 0), Who: who, Room: a.Room, Sender: a.Sender, Seed: draw(a, 1)}
	pledges, e := pledge.Store(c.Pledges, p)
	if e != api.OK {
		return failed(e)
	}
	keys, e := json.Make(
		tree.Pair("public", tree.Text(c.key())),
		tree.Pair("ephemeral", tree.Text(pledge.Key(p))),
	)
	if e != api.OK {
		return failed(e)
	}
	c.Pledges = pledges
	return api.Answer{Text: p.Token, Value: keys}
}

func (c *clerk) valid(a api.Ask) api.Answer {
	if a.Code == c.key() || pledge.Valid(c.Pledges, a.Code) {
		return api.Answer{Value: api.Value{Kind: api.True}}
	}
	return api.Answer{Value: api.Value{Kind: api.False}}
}

func (c *clerk) pepper(a api.Ask) api.Answer {
	if !lookup.Pepper(a.Code) {
		return failed(api.ErrArg)
	}
	c.Pepper = a.Code
	return api.Answer{}
}

func (c *clerk) tick(a api.Ask) api.Answer {
	if !plain.Number(a.N, 0) {
		return failed(api.ErrArg)
	}
	c.Now = min(c.Now+a.N, plain.Most)
	return api.Answer{}
}

func (c *clerk) block(a api.Ask) api.Answer {
	if _, e := account.Whose(c.Users, a.Token); e != api.OK {
		return failed(e)
	}
	p, there := pledge.Find(c.Pledges, a.Code)
	if !there {
		return failed(api.ErrNone)
	}
	return told(pledge.Block(p, c.house.Signer))
}
