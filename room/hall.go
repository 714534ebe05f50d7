package room

import (
	"cmp"
	"slices"
	"strings"

	"vouchsafe/api"
	"vouchsafe/resolve"
)

// maxBehind is how many events' states count for the state behind them.
const maxBehind = 8

// hall is a room, and where in it each name stands.
type hall struct {
	api.Room
	places map[string]int
}

func enter(r api.Room) hall {
	h := hall{r, map[string]int{}}
	for i, e := range r.Events {
		h.places[e.ID] = i
	}
	return h
}

func (h hall) has(id string) bool {
	_, there := h.places[id]
	return there
}

// found is the events of names, as far as they are there.
func (h hall) found(ids []string) []api.Event {
	var l []api.Event
	for _, id := range ids {
		if i, there := h.places[id]; there {
			l = append(l, h.Events[i])
		}
	}
	return l
}

// heads are the events that no one follows; who failed softly neither is one, nor hides one.
func (h hall) heads() []string {
	hidden := map[string]int{}
	for _, id := range h.Soft {
		hidden[id]++
	}
	followed := map[string]int{}
	for _, e := range h.Events {
		if hidden[e.ID] == 0 {
			for _, id := range e.Prev {
				followed[id]++
			}
		}
	}
	var l []string
	for _, e := range h.Events {
		if hidden[e.ID] == 0 && followed[e.ID] == 0 {
			l = append(l, e.ID)
		}
	}
	return l
}

// behind is the state behind events: what their states make together.
func (h hall) behind(ids []string) []api.Event {
	var sets [][]string
	for _, id := range ids[:min(len(ids), maxBehind)] {
		if i, there := h.places[id]; there && i < len(h.States) {
			sets = append(sets, h.States[i])
		}
	}
	if len(sets) == 0 {
		return nil
	}
	if !slices.ContainsFunc(sets, func(s []string) bool { return !slices.Equal(s, sets[0]) }) {
		return h.found(sets[0]) // one state alone is what it makes
	}
	names, _ := resolve.Resolve(h.Events, sets)
	return h.found(names)
}

func (h hall) current() []api.Event {
	return h.behind(h.heads())
}

// reject is the room with an event's name among the rejected.
func (h hall) reject(e api.Event) api.Room {
	h.Rejected = with(h.Rejected, e.ID)
	return h.Room
}

// with is a list with one more; the list itself stays as it is.
func with[T any](l []T, x T) []T {
	return append(slices.Clip(l), x)
}

// moved is the names of a state, with an event at its slot, if it has State.
func moved(state []api.Event, e api.Event) []string {
	if e.State {
		state = slices.DeleteFunc(slices.Clone(state), func(s api.Event) bool { return slot(s) == slot(e) })
		state = append(state, e)
		slices.SortFunc(state, func(a, b api.Event) int {
			return cmp.Or(strings.Compare(a.Type, b.Type), strings.Compare(a.Key, b.Key))
		})
	}
	var names []string
	for _, s := range state {
		names = append(names, s.ID)
	}
	return names
}
