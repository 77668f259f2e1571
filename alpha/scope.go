package alpha

import (
	"slices"

	"sloppyscope/api"
	"sloppyscope/hoist"
	"sloppyscope/run"
	"sloppyscope/tree"
	"sloppyscope/where"
)

// scope is that of a node, with names that the text declares.
type scope struct {
	node      *api.Node
	declaring []*api.Node // in the order in which their names are told
}

// scopes are those that the nodes of a program have, by the nodes' numbers, but those without a name.
func scopes(n *api.Node) map[int]scope {
	numbers := run.Number(n)
	found := map[int]scope{}
	// The block of the function that was come to last: nothing but parameters is between the two.
	var body *api.Node
	tree.Walk(n, func(k *api.Node) bool {
		if isFunction(k) {
			body = k.Kids[1]
		}
		// What a function's block declares is in the function's scope.
		if l := declaring(k); k != body && len(l) > 0 {
			found[numbers[k]] = scope{node: k, declaring: l}
		}
		return true
	})
	return found
}

// declaring are the nodes that declare something in a node's scope.
func declaring(n *api.Node) []*api.Node {
	switch n.Kind {
	case api.Program:
		return hoist.Lets(n)
	case api.Func, api.Lambda:
		params, block := n.Kids[0], n.Kids[1]
		return slices.Concat(params.Kids, vars(block), hoist.Funcs(block), hoist.Lets(block))
	case api.Block:
		return slices.Concat(hoist.Funcs(n), hoist.Lets(n))
	case api.Catch:
		return []*api.Node{n}
	}
	return nil
}

// vars are the Var nodes that declare something in the function of a block.
func vars(block *api.Node) []*api.Node {
	var l []*api.Node
	tree.Walk(block, func(k *api.Node) bool {
		if k.Kind == api.Var {
			l = append(l, k)
		}
		return !isFunction(k)
	})
	return l
}

// names are those of a scope, each once.
func (s scope) names() []string {
	var l []string
	for _, k := range s.declaring {
		if !slices.Contains(l, k.Text) {
			l = append(l, k.Text)
		}
	}
	return l
}

// bearers are the nodes that have a name of the scope of a node's number: those that declare it there, and those that lie in it.
func bearers(n *api.Node, at int, name string) []*api.Node {
	l := scopes(n)[at].declaring
	all := nodes(n)
	for _, u := range where.Of(n) {
		if u.Scope == at {
			l = append(l, all[u.At])
		}
	}
	return slices.DeleteFunc(l, func(k *api.Node) bool { return k.Text != name })
}

// nodes are all nodes of a program, by their numbers.
func nodes(n *api.Node) []*api.Node {
	var l []*api.Node
	tree.Walk(n, func(k *api.Node) bool {
		l = append(l, k)
		return true
	})
	return l
}

func isFunction(n *api.Node) bool { return n.Kind == api.Func || n.Kind == api.Lambda }
