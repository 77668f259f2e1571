package run

import (
	"sloppyscope/api"
	"sloppyscope/early"
	"sloppyscope/heap"
	"sloppyscope/hoist"
	"sloppyscope/tree"
)

// eval does a text as code, where it is called, if it is called by its name.
func (m *machine) eval(called *api.Node, p place, args []heap.Value) (heap.Value, error) {
	if len(args) == 0 {
		return heap.Value{}, nil
	}
	if args[0].Kind != heap.Text {
		return args[0], nil
	}
	if called.Kind != api.Name || called.Text != "eval" {
		p = place{scope: m.top, declares: m.outermost}
	}
	return m.within(func() (heap.Value, error) {
		n, err := readCode(args[0].S, p.strict)
		if err != nil {
			return heap.Value{}, err
		}
		return m.evaled(n, p)
	})
}

// readCode is the program of a text that eval is given.
func readCode(text string, strict bool) (*api.Node, error) {
	n, err := tree.Parse(text)
	if err != nil || early.Check(n, strict, false) != nil {
		return nil, throw(badSource)
	}
	return n, nil
}

// evaled does what eval read.
func (m *machine) evaled(n *api.Node, p place) (heap.Value, error) {
	p.strict = p.strict || tree.Strict(n)
	if p.strict {
		p.scope = m.open(p.scope, none, Evaled)
		p.declares = p.scope
	} else if m.hidden(n, p) {
		return heap.Value{}, throw(badSource)
	}
	var last heap.Value
	p.last = &last
	_, err := m.statements(n.Kids, m.declareEvaled(n, p))
	if err != nil {
		return heap.Value{}, err
	}
	return last, nil
}

// declared are the names that eval'd code declares beyond itself.
func declared(n *api.Node) []string {
	names := hoist.Vars(n)
	for _, k := range hoist.Funcs(n) {
		names = append(names, k.Text)
	}
	return names
}

// hidden says whether a let or const lies between eval'd code and where it would declare that name.
func (m *machine) hidden(n *api.Node, p place) bool {
	for _, name := range declared(n) {
		for scope := p.scope; scope != none; scope = m.OuterOf(scope) {
			if kind := m.KindOf(scope, name); kind == heap.Late || kind == heap.Final {
				return true
			}
			if scope == p.declares {
				break
			}
		}
	}
	return false
}

// declareEvaled declares what eval'd code has, and is where its statements stand.
func (m *machine) declareEvaled(n *api.Node, p place) place {
	for _, name := range declared(n) {
		m.loosen(p.declares, name)
	}
	if len(hoist.Lets(n)) > 0 {
		p.scope = m.open(p.scope, none, Evaled)
		m.declareLets(n, p.scope)
	}
	for _, k := range hoist.Funcs(n) {
		m.Write(p.declares, k.Text, m.function(k, p))
	}
	return p
}

// loosen declares a name that can be deleted again, unless it is there.
func (m *machine) loosen(scope int, name string) {
	object := m.ObjectOf(scope)
	switch {
	case m.Has(scope, name):
	case object != none:
		m.Put(object, name, heap.Value{}, false)
	default:
		m.Declare(scope, name, heap.Loose, heap.Value{})
	}
}
