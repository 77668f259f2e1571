package fold

import (
	"sloppyscope/api"
)

// single is what Not and Typeof of a literal come to.
func single(kind int, of *api.Node) *api.Node {
	l, ok := literalOf(of)
	switch {
	case !ok:
		return nil
	case kind == api.Not:
		return truth(!isTrue(of))
	}
	return said(l.word)
}

// either is the part of Or and And that they come to. What the second one is doesn't matter: it is begun at most once, as before.
func either(kind int, first, second *api.Node) *api.Node {
	if _, ok := literalOf(first); !ok {
		return nil
	}
	if isTrue(first) == (kind == api.Or) {
		return first
	}
	return second
}

// pair is what a value of two literals comes to; nil: it throws, or no literal tells it.
func pair(kind int, a, b *api.Node) *api.Node {
	_, known := literalOf(a)
	if _, ok := literalOf(b); !ok || !known {
		return nil
	}
	switch {
	case kind == api.Same:
		return truth(a.Kind == b.Kind && a.N == b.N && a.Text == b.Text)
	case a.Kind == api.Num && b.Kind == api.Num:
		return ofNumbers(kind, int64(a.N), int64(b.N))
	case kind == api.Add && (a.Kind == api.Str || b.Kind == api.Str):
		return said(show(a) + show(b))
	case kind == api.Less && a.Kind == api.Str && b.Kind == api.Str:
		return truth(a.Text < b.Text)
	}
	return nil
}

// ofNumbers: 64 bits hold whatever two numbers come to.
func ofNumbers(kind int, a, b int64) *api.Node {
	switch kind {
	case api.Less:
		return truth(a < b)
	case api.Add:
		return number(a + b)
	case api.Sub:
		return number(a - b)
	}
	return number(a * b)
}
