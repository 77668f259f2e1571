package fold

import (
	"strconv"

	"sloppyscope/api"
)

// literal is what there is to tell of a kind of literals.
type literal struct {
	kind  int
	shown string // empty of those that show what they hold
	word  string // what typeof tells
}

var literals = [...]literal{
	{api.Num, "", "number"},
	{api.Str, "", "string"},
	{api.True, "true", "boolean"},
	{api.False, "false", "boolean"},
	{api.Null, "null", "object"},
	{api.Undef, "undefined", "undefined"},
}

// literalOf is the literal of a node's kind; false: it is none.
func literalOf(n *api.Node) (literal, bool) {
	for _, l := range literals {
		if l.kind == n.Kind {
			return l, true
		}
	}
	return literal{}, false
}

// show writes a literal as print does.
func show(n *api.Node) string {
	switch n.Kind {
	case api.Num:
		return strconv.Itoa(n.N)
	case api.Str:
		return n.Text
	}
	l, _ := literalOf(n)
	return l.shown
}

// isTrue says whether a literal counts as true.
func isTrue(n *api.Node) bool {
	switch n.Kind {
	case api.Num:
		return n.N != 0
	case api.Str:
		return n.Text != ""
	}
	return n.Kind == api.True
}

// truth is the literal of one.
func truth(b bool) *api.Node {
	if b {
		return &api.Node{Kind: api.True}
	}
	return &api.Node{Kind: api.False}
}

// number is the literal of one; nil: there is none, as no literal is below 0, and beyond the bound there is no number.
func number(n int64) *api.Node {
	if n < 0 || n > api.MaxNumber {
		return nil
	}
	return &api.Node{Kind: api.Num, N: int(n)}
}

// said is the literal of a text; nil: it is too long to be one.
func said(s string) *api.Node {
	if len(s) > api.MaxString {
		return nil
	}
	return &api.Node{Kind: api.Str, Text: s}
}
