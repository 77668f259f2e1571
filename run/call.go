package run

import (
	"strings"

	"sloppyscope/api"
	"sloppyscope/heap"
	"sloppyscope/tree"
)

// Codes of functions. Those that programs make are numbered from firstMade on.
const (
	printCode = iota + 1
	evalCode
	firstMade
)

// function is what a Func or Lambda was made into.
type function struct {
	node   *api.Node
	scope  int // in which it was made
	strict bool
}

// function is a new one, made in a place.
func (m *machine) function(n *api.Node, p place) heap.Value {
	f := function{node: n, scope: p.scope, strict: p.strict || tree.Strict(n.Kids[1])}
	m.functions = append(m.functions, f)
	return ref(m.Object(firstMade + len(m.functions) - 1))
}

// lambda is a function that may know itself by a name that nobody else sees.
func (m *machine) lambda(n *api.Node, p place) heap.Value {
	if n.Text == "" {
		return m.function(n, p)
	}
	p.scope = m.open(p.scope, none, m.owner(n))
	f := m.function(n, p)
	m.Declare(p.scope, n.Text, heap.Own, f)
	return f
}

func (m *machine) call(n *api.Node, p place) (heap.Value, error) {
	all, err := m.values(n.Kids, p)
	if err != nil {
		return heap.Value{}, err
	}
	called, args := all[0], all[1:]
	if called.Kind != heap.Ref {
		return heap.Value{}, throw(badValue)
	}
	switch number := m.Code(called.N); number {
	case 0:
		return heap.Value{}, throw(badValue)
	case printCode:
		m.print(args)
		return heap.Value{}, nil
	case evalCode:
		return m.eval(n.Kids[0], p, args)
	default:
		return m.enter(m.functions[number-firstMade], args)
	}
}

func (m *machine) print(args []heap.Value) {
	var shown []string
	for _, v := range args {
		shown = append(shown, m.Show(v))
	}
	m.result.Log = append(m.result.Log, strings.Join(shown, " "))
}

// within does what a call does, and has it under way meanwhile.
func (m *machine) within(do func() (heap.Value, error)) (heap.Value, error) {
	if m.calls == api.MaxCalls {
		return heap.Value{}, throw(tooMuch)
	}
	m.calls++
	defer func() { m.calls-- }()
	return do()
}

// enter calls a function that a program made.
func (m *machine) enter(f function, args []heap.Value) (heap.Value, error) {
	return m.within(func() (heap.Value, error) {
		scope := m.open(f.scope, none, m.owner(f.node))
		p := place{scope: scope, declares: scope, strict: f.strict}
		m.body(f.node, p, args)
		o, err := m.statements(f.node.Kids[1].Kids, p)
		return o.value, err
	})
}
