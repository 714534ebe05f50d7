package block

import (
	"testing"

	"vouchsafe/api"
	"vouchsafe/json"
)

func TestRead(t *testing.T) {
	for s, want := range map[string]Block{
		`{"mxid":"@a:h","sender":"@b:g","token":"t"}`:          {"@a:h", "@b:g", "t"},
		`{"mxid":"@a:h","more":1,"sender":"@b:g","token":"t"}`: {"@a:h", "@b:g", "t"},
		`{"mxid":"a","sender":"@b:g","token":"t"}`:             {}, `{"mxid":"@a:h","sender":"!b:g","token":"t"}`: {}, `{"mxid":"@a:h","sender":"@b:g","token":"a b"}`: {}, `{"mxid":"@a:h","sender":"@b:g","token":1}`: {}, `{"mxid":"@a:h","sender":"@b:g"}`: {}, `[]`: {}, `null`: {},
	} {
		v, e := json.Parse(s)
		b, ok := Read(v)
		if e != api.OK || b != want || ok != (want != Block{}) {
			t.Error(s, b, ok)
		}
	}
	wrong := api.Value{Kind: api.Object, Names: []string{"mxid", "sender", "token", "a"}, Items: []api.Value{{Kind: api.Text, Text: "@a:h"}, {Kind: api.Text, Text: "@a:h"}, {Kind: api.Text, Text: "t"}, {}}}
	if _, ok := Read(wrong); ok {
		t.Error("an object that isn't right")
	}
}
