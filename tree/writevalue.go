package tree

import (
	"strconv"

	"sloppyscope/api"
)

func (w *writer) strength(n *api.Node) int {
	switch n.Kind {
	case api.Assign:
		return assigning
	case api.Call, api.Member:
		return asking
	}
	if s, ok := w.signs[n.Kind]; ok {
		return s.strength
	}
	return alone
}

// value puts a value that must be at least that strong where it stands.
func (w *writer) value(n *api.Node, least int) {
	if w.strength(n) < least {
		w.inParentheses(n)
		return
	}
	if s, ok := w.signs[n.Kind]; ok {
		w.signed(n, s)
		return
	}
	switch n.Kind {
	case api.Num:
		w.put(strconv.Itoa(n.N))
	case api.Str:
		w.put(quoted(n.Text))
	case api.Name:
		w.put(n.Text)
	case api.Assign:
		w.value(n.Kids[0], asking)
		w.put("=")
		w.value(n.Kids[1], assigning)
	case api.Member:
		w.value(n.Kids[0], asking)
		w.put(".", n.Text)
	case api.Call:
		w.value(n.Kids[0], asking)
		w.list("(", ")", n.Kids[1:])
	case api.Lambda:
		w.function(n)
	case api.Object:
		w.object(n)
	case api.Prop:
		w.put(n.Text, ":")
		w.value(n.Kids[0], assigning)
	}
}

func (w *writer) inParentheses(n *api.Node) {
	w.put("(")
	w.value(n, assigning)
	w.put(")")
}

// signed puts a value of a sign's parts.
func (w *writer) signed(n *api.Node, s sign) {
	right := s.strength
	if s.parts == 2 {
		w.value(n.Kids[0], s.strength)
		right++
	}
	w.put(s.text)
	if s.parts > 0 {
		w.value(n.Kids[s.parts-1], right)
	}
}

// list puts values with commas between, close to what stands ahead.
func (w *writer) list(open, shut string, values []*api.Node) {
	w.close(open)
	w.inCommas(values)
	w.put(shut)
}

func (w *writer) object(n *api.Node) {
	w.put("{")
	w.inCommas(n.Kids)
	w.put("}")
}

func (w *writer) inCommas(values []*api.Node) {
	for i, v := range values {
		if i > 0 {
			w.put(",")
		}
		w.value(v, assigning)
	}
}

// opensStatement says whether a value begins with a token that a statement of another kind begins with.
func (w *writer) opensStatement(n *api.Node) bool {
	for {
		switch least := w.strength(n); n.Kind {
		case api.Lambda, api.Object:
			return true
		case api.Assign, api.Member, api.Call, api.Or, api.And, api.Same, api.Less, api.Add, api.Sub, api.Mul:
			n = n.Kids[0]
			if w.strength(n) < least {
				return false
			}
		default:
			return false
		}
	}
}

// quoted is a string as Tokens reads it.
func quoted(said string) string {
	text := []byte{'\''}
	for i := range len(said) {
		switch b := said[i]; b {
		case '\n':
			text = append(text, '\\', 'n')
		case '\'', '\\':
			text = append(text, '\\', b)
		default:
			text = append(text, b)
		}
	}
	return string(append(text, '\''))
}
