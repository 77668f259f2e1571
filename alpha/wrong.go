package alpha

import (
	"slices"

	"sloppyscope/api"
	"sloppyscope/hoist"
	"sloppyscope/lex"
	"sloppyscope/tree"
)

// wrong is why a name of the scope of a node's number may not be another one.
func wrong(n *api.Node, at int, old, other string) error {
	s := scopes(n)[at]
	switch {
	case !slices.Contains(s.names(), old):
		return api.ErrMissing
	case !mayChange(old) || !mayChange(other):
		return api.ErrName
	case has(n, func(k *api.Node) bool { return isNamed(k) && k.Text == other }):
		return api.ErrTwice
	case has(s.node, func(k *api.Node) bool { return isOpen(k) || splits(k, old) }):
		return api.ErrArg
	}
	return nil
}

// mayChange says whether a name may go, or come in another one's place: eval and arguments have a meaning of their own.
func mayChange(name string) bool {
	return name != "eval" && name != "arguments" && lex.IsName(name)
}

// isNamed says whether a node's Text is a name that lies in a scope: those of properties don't.
func isNamed(n *api.Node) bool {
	switch n.Kind {
	case api.Var, api.Let, api.Const, api.Func, api.Lambda, api.Catch, api.Name:
		return true
	}
	return false
}

// isOpen says whether a node may find names that the text doesn't tell.
func isOpen(n *api.Node) bool {
	return n.Kind == api.With || n.Kind == api.Name && n.Text == "eval"
}

// splits says whether a var in a node declares a name in one scope, but sets it in another one, the node's.
func splits(n *api.Node, name string) bool {
	return n.Kind == api.Catch && n.Text == name && slices.Contains(hoist.Vars(n), name)
}

// has says whether a node, or one within it, is such a one.
func has(n *api.Node, fits func(k *api.Node) bool) bool {
	found := false
	tree.Walk(n, func(k *api.Node) bool {
		found = found || fits(k)
		return !found
	})
	return found
}
