package tree

import (
	"sloppyscope/api"
	"sloppyscope/lex"
)

func (r *reader) value() *api.Node {
	first := r.token()
	left := r.pair(either)
	if r.fixed() != "=" {
		return left
	}
	if left.Kind != api.Name && left.Kind != api.Member {
		r.failAt(api.ErrArg, first)
	}
	r.must("=")
	return node(api.Assign, "", left, r.deeper(r.value))
}

// sign is the one that the token is, if it makes a value of so many parts.
func (r *reader) sign(parts int) (sign, bool) {
	s, ok := r.signs[r.fixed()]
	if !ok || s.parts != parts {
		return sign{}, false
	}
	return s, true
}

// pair reads a value whose signs are at least that strong. What stands on the right must be stronger, so like signs go from the left.
func (r *reader) pair(least int) *api.Node {
	left := r.single()
	for {
		s, ok := r.sign(2)
		if !ok || s.strength < least {
			return left
		}
		r.next++
		left = node(s.kind, "", left, r.pair(s.strength+1))
	}
}

func (r *reader) single() *api.Node {
	if s, ok := r.sign(1); ok {
		r.next++
		return node(s.kind, "", r.deeper(r.single))
	}
	return r.asked()
}

// asked reads a value, and all calls and properties behind it.
func (r *reader) asked() *api.Node {
	n := r.alone()
	for {
		switch r.fixed() {
		case ".":
			r.next++
			n = node(api.Member, r.name(), n)
		case "(":
			n = node(api.Call, "", n)
			n.Kids = append(n.Kids, r.list("(", ")", r.atValue, r.argument)...)
		default:
			return n
		}
	}
}

func (r *reader) alone() *api.Node {
	if read, ok := r.values[r.fixed()]; ok {
		return read()
	}
	s, ok := r.sign(0)
	t := r.token()
	var n *api.Node
	switch {
	case ok:
		n = node(s.kind, "")
	case t.Kind == lex.Name:
		n = node(api.Name, t.Text)
	case t.Kind == lex.String:
		n = node(api.Str, t.Text)
	case t.Kind == lex.Number:
		n = node(api.Num, "")
		n.N = t.N
	default:
		r.fail(api.ErrForm)
	}
	r.next++
	return n
}

// atValue says whether a value can begin with the token.
func (r *reader) atValue() bool {
	switch r.token().Kind {
	case lex.Name, lex.Number, lex.String:
		return true
	}
	if _, ok := r.values[r.fixed()]; ok {
		return true
	}
	s, ok := r.signs[r.fixed()]
	return ok && s.parts < 2
}

func (r *reader) argument() *api.Node { return r.deeper(r.value) }

func (r *reader) inParentheses() *api.Node {
	r.must("(")
	v := r.deeper(r.value)
	r.must(")")
	return v
}

func (r *reader) lambda() *api.Node {
	r.must("function")
	name := ""
	if r.atName() {
		name = r.name()
	}
	return node(api.Lambda, name, r.parameters(), code(r.block()))
}

func (r *reader) object() *api.Node {
	return node(api.Object, "", r.list("{", "}", r.atName, r.property)...)
}

func (r *reader) property() *api.Node {
	name := r.name()
	r.must(":")
	return node(api.Prop, name, r.deeper(r.value))
}
