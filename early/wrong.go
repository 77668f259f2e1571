package early

import (
	"slices"

	"sloppyscope/api"
	"sloppyscope/hoist"
)

// wrong tells what is wrong with a node itself, whatever is within it.
func wrong(n *api.Node, p place) error {
	switch n.Kind {
	case api.Program:
		return wrongScope(n, true)
	case api.Block:
		return wrongScope(n, p.body)
	case api.Func, api.Lambda:
		return wrongFunction(n, p)
	case api.Var, api.Let, api.Const:
		return wrongName(n.Text, p)
	case api.Catch:
		return wrongCatch(n, p)
	case api.If, api.While, api.With:
		return wrongBranch(n, p)
	case api.Return:
		if !p.inside {
			return api.ErrState
		}
	case api.Assign:
		if to := n.Kids[0]; to.Kind == api.Name {
			return wrongName(to.Text, p)
		}
	case api.Delete:
		if p.strict && n.Kids[0].Kind == api.Name {
			return api.ErrArg
		}
	}
	return nil
}

// wrongScope: only in a body functions are declared like vars, so that one more of a name is no harm.
func wrongScope(n *api.Node, body bool) error {
	vars, funcs, lets := hoist.Vars(n), hoist.Funcs(n), hoist.Lets(n)
	isVar := func(k *api.Node) bool { return slices.Contains(vars, k.Text) }
	isFunc := func(k *api.Node) bool { return named(funcs, k.Text) }
	twice := repeated(lets) || slices.ContainsFunc(lets, isFunc) || slices.ContainsFunc(lets, isVar)
	if !body {
		twice = twice || repeated(funcs) || slices.ContainsFunc(funcs, isVar)
	}
	if twice {
		return api.ErrTwice
	}
	return nil
}

func wrongFunction(n *api.Node, p place) error {
	if err := wrongName(n.Text, p); err != nil {
		return err
	}
	for i, k := range params(n) {
		if err := wrongName(k.Text, p); err != nil {
			return err
		}
		if p.strict && named(params(n)[:i], k.Text) {
			return api.ErrTwice
		}
	}
	isParam := func(k *api.Node) bool { return named(params(n), k.Text) }
	if slices.ContainsFunc(hoist.Lets(block(n)), isParam) {
		return api.ErrTwice
	}
	return nil
}

func wrongCatch(n *api.Node, p place) error {
	if err := wrongName(n.Text, p); err != nil {
		return err
	}
	if slices.Contains(hoist.Names(n.Kids[0], false), n.Text) {
		return api.ErrTwice
	}
	return nil
}

func wrongBranch(n *api.Node, p place) error {
	// What is tested is among the kids, but never of such a kind.
	declares := func(k *api.Node) bool { return k.Kind == api.Let || k.Kind == api.Const || k.Kind == api.Func }
	if n.Kind == api.With && p.strict || slices.ContainsFunc(n.Kids, declares) {
		return api.ErrArg
	}
	return nil
}

// wrongName: these two names mean something that strict code must be able to rely on.
func wrongName(name string, p place) error {
	if p.strict && (name == "eval" || name == "arguments") {
		return api.ErrName
	}
	return nil
}

func named(nodes []*api.Node, name string) bool {
	return slices.ContainsFunc(nodes, func(k *api.Node) bool { return k.Text == name })
}

// repeated says whether two of the nodes have one name.
func repeated(nodes []*api.Node) bool {
	for i, k := range nodes {
		if named(nodes[:i], k.Text) {
			return true
		}
	}
	return false
}
