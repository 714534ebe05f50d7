package rule

import (
	"vouchsafe/api"
	"vouchsafe/ids"
	"vouchsafe/json"
)

// sheet is a tree whose items are asked for by their names.
type sheet struct {
	api.Value
}

func (s sheet) inside(name string) (sheet, bool) {
	v, there := json.Get(s.Value, name)
	return sheet{v}, there
}

// text is the text of a name; empty, where there is none.
func (s sheet) text(name string) string {
	x, _ := s.inside(name)
	if x.Kind != api.Text {
		return ""
	}
	return x.Text
}

func (s sheet) number(name string) (int, bool) {
	x, _ := s.inside(name)
	if x.Kind != api.Number {
		return 0, false
	}
	return x.Num, true
}

// counts is the number of a name as it counts: the usual one, where there is none.
func (s sheet) counts(name string) int {
	if n, there := s.number(name); there {
		return n
	}
	return usual(name)
}

// usual is what a level is that nobody set.
func usual(name string) int {
	switch name {
	case "state_default", "ban", "kick", "redact":
		return 50
	}
	return 0
}

// named are the levels that a sheet of levels has beside those in its objects.
func named() [7]string {
	return [7]string{"users_default", "events_default", "state_default", "ban", "kick", "redact", "invite"}
}

// numbers: is the item of a name an object of numbers, by names as they must be, as far as it is there?
func (s sheet) numbers(name string, must func(string) bool) bool {
	x, there := s.inside(name)
	if !there {
		return true
	}
	if x.Kind != api.Object {
		return false
	}
	for i, n := range x.Names {
		if !must(n) || x.Items[i].Kind != api.Number {
			return false
		}
	}
	return true
}

// isLevels: is it a sheet of levels as it must be?
func (s sheet) isLevels() bool {
	for _, name := range named() {
		x, there := s.inside(name)
		if there && x.Kind != api.Number {
			return false
		}
	}
	return s.numbers("users", ids.User) && s.numbers("events", func(string) bool { return true })
}
