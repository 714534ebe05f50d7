package resolve

import (
	"cmp"
	"slices"
	"strings"

	"vouchsafe/api"
	"vouchsafe/graph"
	"vouchsafe/rule"
)

// The types of events that have power.
const (
	ofLevels = "m.room.power_levels"
	ofJoins  = "m.room.join_rules"
	ofMember = "m.room.member"
)

// room is a graph, and where in it each name stands; its steps speak of events by their places.
type room struct {
	events []api.Event
	places map[string]int
}

func open(g []api.Event) (room, bool) {
	if !graph.Right(g) {
		return room{}, false
	}
	r := room{g, map[string]int{}}
	for i, e := range g {
		r.places[e.ID] = i
	}
	return r, true
}

func (r room) has(id string) bool {
	_, there := r.places[id]
	return there
}

// each is the places of names; false, if one isn't there, or is there twice.
func (r room) each(names []string) ([]int, bool) {
	met := make([]bool, len(r.events))
	var l []int
	for _, id := range names {
		i, there := r.places[id]
		if !there || met[i] {
			return nil, false
		}
		met[i] = true
		l = append(l, i)
	}
	return l, true
}

func (r room) names(l []int) []string {
	var names []string
	for _, i := range l {
		names = append(names, r.events[i].ID)
	}
	return names
}

func (r room) where(in func(int) bool) []int {
	var l []int
	for i := range r.events {
		if in(i) {
			l = append(l, i)
		}
	}
	return l
}

func (r room) slot(i int) api.Slot {
	return api.Slot{Type: r.events[i].Type, Key: r.events[i].Key}
}

// isState: have the events State, no two of one slot? (That they are right, the graph says.)
func (r room) isState(l []int) bool {
	met := map[api.Slot]int{}
	for _, i := range l {
		met[r.slot(i)]++
		if !r.events[i].State || met[r.slot(i)] > 1 {
			return false
		}
	}
	return true
}

// auth is the places of what an event leans on, in its order.
func (r room) auth(i int) []int {
	var l []int
	for _, id := range r.events[i].Auth {
		l = append(l, r.places[id])
	}
	return l
}

// fullChain tells of each place whether it is among events, or what they lean on, and so on.
func (r room) fullChain(l []int) []bool {
	in := make([]bool, len(r.events))
	for _, i := range l {
		in[i] = true
	}
	// What an event leans on stands ahead of it, so that one way back is enough.
	for i := len(in) - 1; i >= 0; i-- {
		if in[i] {
			for _, j := range r.auth(i) {
				in[j] = true
			}
		}
	}
	return in
}

func isLevels(e api.Event) bool {
	return e.State && e.Type == ofLevels && e.Key == ""
}

func isPower(e api.Event) bool {
	if !e.State {
		return false
	}
	if e.Type == ofMember && e.Key != e.Sender {
		m := rule.Membership([]api.Event{e}, e.Key)
		return m == "leave" || m == "ban"
	}
	return e.Key == "" && (e.Type == ofLevels || e.Type == ofJoins)
}

// weight is the level of an event's sender, by what it leans on.
func (r room) weight(i int) int {
	var by []api.Event
	for _, j := range r.auth(i) {
		by = append(by, r.events[j])
	}
	return rule.Level(by, r.events[i].Sender)
}

// older holds two events against each other by Time, then by ID.
func (r room) older(i, j int) int {
	a, b := r.events[i], r.events[j]
	return cmp.Or(cmp.Compare(a.Time, b.Time), strings.Compare(a.ID, b.ID))
}

// powerOrder is events in the power part's order.
func (r room) powerOrder(l []int) []int {
	weights := map[int]int{}
	left := map[int]int{} // how many of the part an event still waits for
	for _, i := range l {
		weights[i] = r.weight(i)
		left[i] = 0
	}
	for _, i := range l {
		for _, j := range r.auth(i) {
			if _, part := weights[j]; part {
				left[i]++
			}
		}
	}
	stronger := func(i, j int) int {
		return cmp.Or(cmp.Compare(weights[j], weights[i]), r.older(i, j))
	}
	ready := func(i int) bool { return left[i] == 0 }
	waiting := slices.Clone(l)
	var taken []int
	for len(waiting) > 0 {
		next := slices.MinFunc(slices.DeleteFunc(slices.Clone(waiting), func(i int) bool { return !ready(i) }), stronger)
		taken = append(taken, next)
		waiting = slices.DeleteFunc(waiting, func(i int) bool { return i == next })
		for _, i := range waiting {
			if slices.Contains(r.auth(i), next) {
				left[i]--
			}
		}
	}
	return taken
}

// above is the first levels' event that an event leans on; -1, where there is none.
func (r room) above(i int) int {
	for _, j := range r.auth(i) {
		if isLevels(r.events[j]) {
			return j
		}
	}
	return -1
}

// mainLine is how many stand ahead of each on the line that begins with an event.
func (r room) mainLine(top string) map[int]int {
	line := map[int]int{}
	if top == "" {
		return line
	}
	for i := r.places[top]; i >= 0; i = r.above(i) {
		line[i] = len(line)
	}
	return line
}

// lineOrder is events in the rest's order.
func (r room) lineOrder(l []int, line map[int]int) []int {
	places := map[int]int{}
	for _, i := range l {
		at := i
		if !isLevels(r.events[i]) {
			at = r.above(i)
		}
		for at >= 0 {
			if _, on := line[at]; on {
				break
			}
			at = r.above(at)
		}
		places[i] = len(line)
		if at >= 0 {
			places[i] = line[at]
		}
	}
	sorted := slices.Clone(l)
	slices.SortFunc(sorted, func(i, j int) int {
		return cmp.Or(cmp.Compare(places[j], places[i]), r.older(i, j))
	})
	return sorted
}

// top is the levels' event of a state; empty, where there is none.
func (r room) top(s state) string {
	i, there := s[api.Slot{Type: ofLevels}]
	if !there {
		return ""
	}
	return r.events[i].ID
}

// try tries events one by one: what may be, stands in the state from then on.
func (r room) try(s state, l []int) {
	for _, i := range l {
		e := r.events[i]
		if e.State && rule.Allowed(r.leaning(s, i), e) == api.OK {
			s[r.slot(i)] = i
		}
	}
}

// leaning is the events at an event's needs: the state's, or else those that it leans on.
func (r room) leaning(s state, i int) []api.Event {
	var by []api.Event
	for _, need := range rule.Needs(r.events[i]) {
		j, there := s[need]
		if !there {
			at := slices.IndexFunc(r.auth(i), func(j int) bool { return r.events[j].State && r.slot(j) == need })
			if at < 0 {
				continue
			}
			j = r.auth(i)[at]
		}
		by = append(by, r.events[j])
	}
	return by
}

// state is the place of the event at each slot.
type state map[api.Slot]int

// lay lays all of another state over this one.
func (s state) lay(over state) {
	for slot, i := range over {
		s[slot] = i
	}
}

// rising is the places of a state's events, by rising types, then keys.
func (s state) rising() []int {
	var slots []api.Slot
	for slot := range s {
		slots = append(slots, slot)
	}
	slices.SortFunc(slots, func(a, b api.Slot) int {
		return cmp.Or(strings.Compare(a.Type, b.Type), strings.Compare(a.Key, b.Key))
	})
	var l []int
	for _, slot := range slots {
		l = append(l, s[slot])
	}
	return l
}
