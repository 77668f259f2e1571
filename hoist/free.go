package hoist

import (
	"slices"

	"sloppyscope/api"
	"sloppyscope/tree"
)

// given is the name that every function declares.
const given = "arguments"

// Free are the names that a program uses without declaring them around, in order of bytes, each once: whatever with and eval may do.
func Free(n *api.Node) (_ []string) {
	var free []string
	around := map[string]int{} // how often what is around declares a name
	var look func(k *api.Node) bool
	look = func(k *api.Node) bool {
		if k.Kind == api.Name && around[k.Text] == 0 {
			free = append(free, k.Text)
		}
		names, inner := declared(k)
		if inner == nil {
			return k.Kind != api.Params // the names in it are no uses
		}
		count(around, names, 1)
		for _, part := range inner.Kids {
			tree.Walk(part, look)
		}
		count(around, names, -1)
		return false
	}
	tree.Walk(n, look)
	slices.Sort(free)
	return slices.Compact(free)
}

// declared are the names that a node declares, and the node within which they are; nil: it declares nothing.
func declared(n *api.Node) (names []string, inner *api.Node) {
	switch n.Kind {
	case api.Program:
		return Names(n, true), n
	case api.Block:
		return Names(n, false), n
	case api.Catch:
		return []string{n.Text}, n
	case api.Func, api.Lambda:
		return declaredInFunction(n)
	}
	return nil, nil
}

// declaredInFunction are the names of a function and those of its block together: nothing but the block can use them.
func declaredInFunction(n *api.Node) (names []string, inner *api.Node) {
	params, block := n.Kids[0], n.Kids[1]
	names = append(Names(block, true), texts(params.Kids)...)
	names = append(names, given)
	// A Func's own name is declared around it, not within.
	if n.Kind == api.Lambda {
		names = append(names, n.Text)
	}
	return names, block
}

func count(around map[string]int, names []string, by int) {
	for _, s := range names {
		around[s] += by
	}
}
