package rule

import (
	"slices"
	"strings"

	"vouchsafe/api"
	"vouchsafe/base"
	"vouchsafe/event"
	"vouchsafe/ids"
	"vouchsafe/seal"
)

// hearing is an event that is judged by a state.
type hearing struct {
	state   []api.Event
	event   api.Event
	content sheet
}

func (h hearing) mayBe() bool {
	e := h.event
	if e.Type == ofCreation {
		return h.creation()
	}
	creation, made := At(h.state, api.Slot{Type: ofCreation})
	if !made || creation.Room != e.Room {
		return false
	}
	if e.Type == ofMember {
		return e.State && ids.User(e.Key) && h.member(creation)
	}
	if h.membership(e.Sender) != join {
		return false
	}
	if e.Type == ofThird {
		return e.State && h.atLeast(invite)
	}
	if h.level(e.Sender) < h.needed() || strings.HasPrefix(e.Key, "@") && e.Key != e.Sender {
		return false
	}
	return e.Type != ofLevels || e.State && e.Key == "" && h.levels()
}

func (h hearing) membership(user string) string { return Membership(h.state, user) }
func (h hearing) level(user string) int         { return Level(h.state, user) }

// atLeast: has the sender the level that an act asks for?
func (h hearing) atLeast(act string) bool {
	levels, _ := content(h.state, ofLevels, "")
	return h.level(h.event.Sender) >= levels.counts(act)
}

// above: is the sender's level above that of the user whom the event is about?
func (h hearing) above() bool {
	return h.level(h.event.Sender) > h.level(h.event.Key)
}

// needed is the level that the event's type asks for.
func (h hearing) needed() int {
	levels, there := content(h.state, ofLevels, "")
	if !there {
		return 0
	}
	events, _ := levels.inside("events")
	if n, has := events.number(h.event.Type); has {
		return n
	}
	if h.event.State {
		return levels.counts("state_default")
	}
	return levels.counts("events_default")
}

func (h hearing) creation() bool {
	e := h.event
	_, server, fault := ids.Split(e.Room)
	return e.State && e.Key == "" && len(e.Prev) == 0 && len(h.state) == 0 &&
		fault == api.OK && event.Server(e) == server && h.content.text("creator") == e.Sender
}

func (h hearing) member(creation api.Event) bool {
	switch h.content.text("membership") {
	case join:
		return h.event.Sender == h.event.Key && (h.first(creation) || h.invited() || h.open())
	case invite:
		return h.invite()
	case leave:
		return h.leave()
	case ban:
		return h.membership(h.event.Sender) == join && h.above() && h.atLeast(ban)
	}
	return false
}

// first: is it the creator who comes right behind the creation?
func (h hearing) first(creation api.Event) bool {
	e := h.event
	return slices.Equal(e.Prev, []string{creation.ID}) && sheet{creation.Content}.text("creator") == e.Sender
}

// invited: is the one whom the event is about invited, or there already?
func (h hearing) invited() bool {
	m := h.membership(h.event.Key)
	return m == invite || m == join
}

// open: may anybody come who wasn't banned?
func (h hearing) open() bool {
	joins, _ := content(h.state, ofJoins, "")
	return h.membership(h.event.Key) != ban && joins.text("join_rule") == "public"
}

func (h hearing) invite() bool {
	m := h.membership(h.event.Key)
	if _, third := h.content.inside(thirdItem); third {
		return m != ban && h.block()
	}
	return h.membership(h.event.Sender) == join && m != join && m != ban && h.atLeast(invite)
}

func (h hearing) leave() bool {
	e := h.event
	if e.Sender == e.Key && h.invited() {
		return true
	}
	return h.membership(e.Sender) == join && h.above() && h.atLeast("kick") &&
		(h.membership(e.Key) != ban || h.atLeast(ban))
}

// signed is a member event's third-party block.
func (s sheet) signed() sheet {
	third, _ := s.inside(thirdItem)
	signed, _ := third.inside("signed")
	return signed
}

// token is the text token of a third-party block, if there is one.
func (s sheet) token() (string, bool) {
	token, _ := s.signed().inside("token")
	return token.Text, token.Kind == api.Text
}

// block: does the event's third-party block hold?
func (h hearing) block() bool {
	token, there := h.content.token()
	if !there {
		return false
	}
	third, there := At(h.state, api.Slot{Type: ofThird, Key: token})
	signed := h.content.signed()
	if !there || third.Sender != h.event.Sender || signed.text("mxid") != h.event.Key {
		return false
	}
	signers := seal.Signers(signed.Value)
	holds := func(key [32]byte) bool {
		return slices.ContainsFunc(signers, func(s string) bool {
			server, name, _ := strings.Cut(s, " ")
			return seal.Verify(signed.Value, server, name, key) == api.OK
		})
	}
	return slices.ContainsFunc(sheet{third.Content}.keys(), holds)
}

// keys are the first of those that a third-party invite tells.
func (s sheet) keys() [][32]byte {
	told := []string{s.text("public_key")}
	if more, _ := s.inside("public_keys"); more.Kind == api.List {
		for _, x := range more.Items {
			told = append(told, sheet{x}.text("public_key"))
		}
	}
	var keys [][32]byte
	for _, letters := range told {
		b, fault := base.Decode(letters)
		if fault == api.OK && len(b) == 32 && len(keys) < api.MaxKeys {
			keys = append(keys, [32]byte(b))
		}
	}
	return keys
}

// levels: may the levels become those of the event?
func (h hearing) levels() bool {
	if !h.content.isLevels() {
		return false
	}
	old, were := content(h.state, ofLevels, "")
	if !were {
		return true
	}
	own := h.level(h.event.Sender)
	for _, name := range named() {
		was, is := old.counts(name), h.content.counts(name)
		if was != is && max(was, is) > own {
			return false
		}
	}
	return h.changes(old, "events", func(string) int { return own }) && h.changes(old, "users", func(user string) int {
		if user == h.event.Sender {
			return own
		}
		return own - 1
	})
}

// changes: may the numbers of an object become those of the event? What goes is at most what most says of its name, what comes at most the sender's level.
func (h hearing) changes(old sheet, name string, most func(string) int) bool {
	before, _ := old.inside(name)
	after, _ := h.content.inside(name)
	own := h.level(h.event.Sender)
	for _, n := range slices.Concat(before.Names, after.Names) {
		was, had := before.number(n)
		is, has := after.number(n)
		if had == has && was == is {
			continue
		}
		if had && was > most(n) || has && is > own {
			return false
		}
	}
	return true
}
