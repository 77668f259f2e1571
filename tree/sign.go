package tree

import "sloppyscope/api"

// How strong values are, from the weakest on.
const (
	assigning = iota + 1
	either
	both
	same
	less
	adding
	multiplying
	ahead
	asking
	alone
)

// strictText is the Text of strict code, and strictSaid what the string says that makes it so.
const (
	strictText = "strict"
	strictSaid = "use strict"
)

// sign is a word or sign that makes a value of so many parts.
type sign struct {
	text     string
	kind     int
	parts    int
	strength int
}

var signs = [...]sign{
	{"||", api.Or, 2, either},
	{"&&", api.And, 2, both},
	{"===", api.Same, 2, same},
	{"<", api.Less, 2, less},
	{"+", api.Add, 2, adding},
	{"-", api.Sub, 2, adding},
	{"*", api.Mul, 2, multiplying},
	{"!", api.Not, 1, ahead},
	{"typeof", api.Typeof, 1, ahead},
	{"delete", api.Delete, 1, ahead},
	{"true", api.True, 0, alone},
	{"false", api.False, 0, alone},
	{"null", api.Null, 0, alone},
	{"undefined", api.Undef, 0, alone},
}

// head is the word that a statement begins with.
type head struct {
	text string
	kind int
}

var heads = [...]head{
	{"var", api.Var},
	{"let", api.Let},
	{"const", api.Const},
	{"if", api.If},
	{"while", api.While},
	{"with", api.With},
	{"return", api.Return},
	{"throw", api.Throw},
}

func signsByText() map[string]sign {
	m := map[string]sign{}
	for _, s := range signs {
		m[s.text] = s
	}
	return m
}

func signsByKind() map[int]sign {
	m := map[int]sign{}
	for _, s := range signs {
		m[s.kind] = s
	}
	return m
}

func headKind(text string) int {
	for _, h := range heads {
		if h.text == text {
			return h.kind
		}
	}
	return 0
}

func headText(kind int) string {
	for _, h := range heads {
		if h.kind == kind {
			return h.text
		}
	}
	return ""
}

// node is made of any number of others.
func node(kind int, text string, kids ...*api.Node) *api.Node {
	return &api.Node{Kind: kind, Text: text, Kids: kids}
}
