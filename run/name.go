package run

import (
	"sloppyscope/api"
	"sloppyscope/heap"
)

// find is the scope that has a Name, and tells that it was seen there.
func (m *machine) find(n *api.Node, p place) int {
	scope := m.Find(p.scope, n.Text)
	if number, ok := m.numbers[n]; ok && scope != none {
		m.result.Seen = append(m.result.Seen, [2]int{number, m.owners[scope]})
	}
	return scope
}

// name is the value of a Name.
func (m *machine) name(n *api.Node, p place) (heap.Value, error) {
	v, err := m.Read(m.find(n, p), n.Text)
	if err != nil {
		return heap.Value{}, throw(badName)
	}
	return v, nil
}

// assign sets a name in the scope where it was found; what was done since may have taken it away.
func (m *machine) assign(scope int, name string, v heap.Value, strict bool) error {
	switch api.Tell(m.Write(scope, name, v)) {
	case api.ErrMissing:
		return m.assignNew(scope, name, v, strict)
	case api.ErrState:
		return throw(badName)
	case api.ErrArg:
		return throw(badValue)
	case api.ErrName:
		if strict {
			return throw(badValue)
		}
	}
	return nil
}

// assignNew makes a property of a name that is nowhere, or is gone.
func (m *machine) assignNew(scope int, name string, v heap.Value, strict bool) error {
	if strict {
		return throw(badName)
	}
	object := m.ObjectOf(scope)
	if object == none {
		object = m.global
	}
	return m.Put(object, name, v, false)
}

func (m *machine) assignment(n *api.Node, p place) (heap.Value, error) {
	if n.Kids[0].Kind == api.Member {
		return m.assignMember(n.Kids[0], n.Kids[1], p)
	}
	scope := m.find(n.Kids[0], p)
	v, err := m.value(n.Kids[1], p)
	if err != nil {
		return heap.Value{}, err
	}
	return v, m.assign(scope, n.Kids[0].Text, v, p.strict)
}

func (m *machine) assignMember(to, from *api.Node, p place) (heap.Value, error) {
	object, err := m.value(to.Kids[0], p)
	if err != nil {
		return heap.Value{}, err
	}
	v, err := m.value(from, p)
	if err != nil {
		return heap.Value{}, err
	}
	// Only now: the value is worked out, whatever it is put into.
	if object.Kind != heap.Ref {
		return heap.Value{}, throw(badValue)
	}
	return v, m.Put(object.N, to.Text, v, false)
}

// object is the number of the object that a value is.
func (m *machine) object(n *api.Node, p place) (int, error) {
	v, err := m.value(n, p)
	if err != nil {
		return none, err
	}
	if v.Kind != heap.Ref {
		return none, throw(badValue)
	}
	return v.N, nil
}

func (m *machine) member(n *api.Node, p place) (heap.Value, error) {
	object, err := m.object(n.Kids[0], p)
	if err != nil {
		return heap.Value{}, err
	}
	v, _ := m.Get(object, n.Text)
	return v, nil
}

func (m *machine) remove(n *api.Node, p place) (heap.Value, error) {
	of := n.Kids[0]
	switch of.Kind {
	case api.Name:
		return heap.Is(m.Drop(m.Find(p.scope, of.Text), of.Text)), nil
	case api.Member:
		return m.removeMember(of, p)
	}
	if _, err := m.value(of, p); err != nil {
		return heap.Value{}, err
	}
	return heap.Is(true), nil
}

func (m *machine) removeMember(n *api.Node, p place) (heap.Value, error) {
	object, err := m.object(n.Kids[0], p)
	if err != nil {
		return heap.Value{}, err
	}
	gone := m.Cut(object, n.Text)
	if !gone && p.strict {
		return heap.Value{}, throw(badValue)
	}
	return heap.Is(gone), nil
}
