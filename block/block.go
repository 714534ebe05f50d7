// Package block reads what the identity server signs of an invite, whoever signed it.
package block

import (
	"vouchsafe/api"
	"vouchsafe/ids"
	"vouchsafe/json"
	"vouchsafe/plain"
)

// Block is what a block says: who is invited, by whom, and with which token.
type Block struct {
	Mxid, Sender, Token string
}

// Read tells what a tree says as a block, if it has a block's items.
func Read(v api.Value) (Block, bool) {
	if v.Kind != api.Object || !json.Right(v) {
		return Block{}, false
	}
	text := func(name string) string {
		x, _ := json.Get(v, name)
		return x.Text
	}
	b := Block{text("mxid"), text("sender"), text("token")}
	if !ids.User(b.Mxid) || !ids.User(b.Sender) || !plain.Word(b.Token) {
		return Block{}, false
	}
	return b, true
}
