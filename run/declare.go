package run

import (
	"slices"
	"strconv"

	"sloppyscope/api"
	"sloppyscope/heap"
	"sloppyscope/hoist"
	"sloppyscope/tree"
)

// program declares what a program has, and is where its statements stand.
func (m *machine) program(n *api.Node) place {
	for _, name := range hoist.Vars(n) {
		if !m.Has(m.outermost, name) {
			m.Put(m.global, name, heap.Value{}, true)
		}
	}
	m.declareLets(n, m.top)
	p := place{scope: m.top, declares: m.outermost, strict: tree.Strict(n)}
	for _, k := range hoist.Funcs(n) {
		m.Put(m.global, k.Text, m.function(k, p), true)
	}
	return p
}

func (m *machine) declareLets(n *api.Node, scope int) {
	for _, k := range hoist.Lets(n) {
		kind := heap.Late
		if k.Kind == api.Const {
			kind = heap.Final
		}
		m.Declare(scope, k.Text, kind, heap.Value{})
	}
}

// declareFuncs declares what a block or a function's block has of functions.
func (m *machine) declareFuncs(n *api.Node, p place) {
	for _, k := range hoist.Funcs(n) {
		m.settle(p.scope, k.Text, m.function(k, p))
	}
}

// settle declares a name, or sets it, where it is there already.
func (m *machine) settle(scope int, name string, v heap.Value) {
	if m.Declare(scope, name, heap.Plain, v) != nil {
		m.Write(scope, name, v)
	}
}

// body declares what a function has when it is called with these arguments.
func (m *machine) body(n *api.Node, p place, args []heap.Value) {
	params, block := n.Kids[0].Kids, n.Kids[1]
	for i, k := range params {
		var v heap.Value
		if i < len(args) {
			v = args[i]
		}
		m.settle(p.scope, k.Text, v)
	}
	if hasArguments(params, block) {
		m.Declare(p.scope, "arguments", heap.Plain, m.arguments(args))
	}
	for _, name := range hoist.Vars(block) {
		// One that is there already keeps its value: Declare leaves it alone.
		m.Declare(p.scope, name, heap.Plain, heap.Value{})
	}
	m.declareLets(block, p.scope)
	m.declareFuncs(block, p)
}

func hasArguments(params []*api.Node, block *api.Node) bool {
	is := func(k *api.Node) bool { return k.Text == "arguments" }
	return !slices.ContainsFunc(params, is) && !slices.Contains(hoist.Names(block, false), "arguments")
}

// arguments is an object of the arguments of a call.
func (m *machine) arguments(args []heap.Value) heap.Value {
	object := m.Object(0)
	m.Put(object, "length", heap.Of(len(args)), false)
	for i, v := range args {
		m.Put(object, "a"+strconv.Itoa(i), v, false)
	}
	return ref(object)
}

// block is where the statements of a Block stand.
func (m *machine) block(n *api.Node, p place) place {
	if len(hoist.Names(n, false)) == 0 {
		return p
	}
	p.scope = m.open(p.scope, none, m.owner(n))
	m.declareLets(n, p.scope)
	m.declareFuncs(n, p)
	return p
}
