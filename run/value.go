package run

import (
	"sloppyscope/api"
	"sloppyscope/heap"
)

func (m *machine) value(n *api.Node, p place) (heap.Value, error) {
	if err := m.step(); err != nil {
		return heap.Value{}, err
	}
	switch n.Kind {
	case api.Num:
		return heap.Of(n.N), nil
	case api.Str:
		return heap.Say(n.Text), nil
	case api.True, api.False:
		return heap.Is(n.Kind == api.True), nil
	case api.Null:
		return heap.Value{Kind: heap.Null}, nil
	case api.Name:
		return m.name(n, p)
	case api.Assign:
		return m.assignment(n, p)
	case api.Or, api.And:
		return m.either(n, p)
	case api.Same, api.Less, api.Add, api.Sub, api.Mul:
		return m.pair(n, p)
	case api.Not:
		return m.not(n, p)
	case api.Typeof:
		return m.typeOf(n, p)
	case api.Delete:
		return m.remove(n, p)
	case api.Call:
		return m.call(n, p)
	case api.Member:
		return m.member(n, p)
	case api.Lambda:
		return m.lambda(n, p), nil
	case api.Object:
		return m.literal(n, p)
	}
	// What is left is Undef.
	return heap.Value{}, nil
}

// values are worked out in order.
func (m *machine) values(list []*api.Node, p place) ([]heap.Value, error) {
	var values []heap.Value
	for _, k := range list {
		v, err := m.value(k, p)
		if err != nil {
			return nil, err
		}
		values = append(values, v)
	}
	return values, nil
}

// either is of Or and And: the second value is not begun where the first one settles it.
func (m *machine) either(n *api.Node, p place) (heap.Value, error) {
	v, err := m.value(n.Kids[0], p)
	if err != nil || v.True() == (n.Kind == api.Or) {
		return v, err
	}
	return m.value(n.Kids[1], p)
}

func (m *machine) not(n *api.Node, p place) (heap.Value, error) {
	v, err := m.value(n.Kids[0], p)
	if err != nil {
		return heap.Value{}, err
	}
	return heap.Is(!v.True()), nil
}

func (m *machine) typeOf(n *api.Node, p place) (heap.Value, error) {
	of := n.Kids[0]
	if of.Kind == api.Name && m.Find(p.scope, of.Text) == none {
		return heap.Say("undefined"), nil
	}
	v, err := m.value(of, p)
	if err != nil {
		return heap.Value{}, err
	}
	return heap.Say(m.typeName(v)), nil
}

func (m *machine) typeName(v heap.Value) string {
	switch v.Kind {
	case heap.Undefined:
		return "undefined"
	case heap.Bool:
		return "boolean"
	case heap.Number:
		return "number"
	case heap.Text:
		return "string"
	case heap.Ref:
		if m.Code(v.N) != 0 {
			return "function"
		}
	}
	return "object"
}

// literal is of Object: a new one.
func (m *machine) literal(n *api.Node, p place) (heap.Value, error) {
	object := m.Object(0)
	for _, k := range n.Kids {
		v, err := m.value(k.Kids[0], p)
		if err != nil {
			return heap.Value{}, err
		}
		m.Put(object, k.Text, v, false)
	}
	return ref(object), nil
}
