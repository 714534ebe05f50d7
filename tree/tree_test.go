package tree

import (
	"reflect"
	"testing"

	"vouchsafe/api"
)

func TestTrees(t *testing.T) {
	for i, x := range []struct{ got, want any }{
		{Text("a"), api.Value{Kind: api.Text, Text: "a"}},
		{Number(-3), api.Value{Kind: api.Number, Num: -3}},
		{Texts(), api.Value{Kind: api.List}},
		{Texts("b", "a"), api.Value{Kind: api.List, Items: []api.Value{{Kind: api.Text, Text: "b"}, {Kind: api.Text, Text: "a"}}}},
		{Pair("n", Number(1)), api.Pair{Name: "n", Value: api.Value{Kind: api.Number, Num: 1}}},
	} {
		if !reflect.DeepEqual(x.got, x.want) {
			t.Error(i, x.got)
		}
	}
}
