package event

import (
	"vouchsafe/api"
	"vouchsafe/json"
	"vouchsafe/tree"
)

// object lays an event's fields out, by rising names; whether it is right, the caller asks.
func object(e api.Event) api.Value {
	v := api.Value{Kind: api.Object}
	add := func(name string, x api.Value) {
		v.Names = append(v.Names, name)
		v.Items = append(v.Items, x)
	}
	add("auth_events", tree.Texts(e.Auth...))
	add("content", e.Content)
	add("depth", tree.Number(e.Depth))
	add(hashes, api.Value{Kind: api.Object, Names: []string{algorithm}, Items: []api.Value{tree.Text(e.Hash)}})
	add("origin_server_ts", tree.Number(e.Time))
	add("prev_events", tree.Texts(e.Prev...))
	add("room_id", tree.Text(e.Room))
	add("sender", tree.Text(e.Sender))
	add(signatures, e.Sigs)
	if e.State {
		add(stateKey, tree.Text(e.Key))
	}
	add("type", tree.Text(e.Type))
	return v
}

// sheet is an object whose items are asked for by their names; what isn't there is a zero value.
type sheet struct {
	api.Value
}

func (s sheet) has(name string) bool {
	_, there := json.Get(s.Value, name)
	return there
}

func (s sheet) item(name string) api.Value {
	v, _ := json.Get(s.Value, name)
	return v
}

func (s sheet) inside(name string) sheet {
	return sheet{s.item(name)}
}

func (s sheet) text(name string) string {
	return s.item(name).Text
}

func (s sheet) number(name string) int {
	return s.item(name).Num
}

func (s sheet) texts(name string) []string {
	var l []string
	for _, x := range s.inside(name).Items {
		l = append(l, x.Text)
	}
	return l
}

// event is what the object tells of one, but for its name.
func (s sheet) event() api.Event {
	return api.Event{
		Room: s.text("room_id"), Sender: s.text("sender"), Type: s.text("type"), State: s.has(stateKey), Key: s.text(stateKey),
		Content: s.item("content"), Prev: s.texts("prev_events"), Auth: s.texts("auth_events"), Depth: s.number("depth"), Time: s.number("origin_server_ts"),
		Hash: s.inside(hashes).text(algorithm), Sigs: s.item(signatures),
	}
}
