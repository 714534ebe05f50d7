// Package tree makes the plainest trees: texts, numbers, lists of texts, and pairs with a text.
package tree

import "vouchsafe/api"

// Text is a tree of a text.
func Text(s string) api.Value {
	return api.Value{Kind: api.Text, Text: s}
}

// Number is a tree of a number.
func Number(n int) api.Value {
	return api.Value{Kind: api.Number, Num: n}
}

// Texts is a list of texts.
func Texts(l ...string) api.Value {
	v := api.Value{Kind: api.List}
	for _, s := range l {
		v.Items = append(v.Items, Text(s))
	}
	return v
}

// Pair is a name with a tree.
func Pair(name string, v api.Value) api.Pair {
	return api.Pair{Name: name, Value: v}
}
