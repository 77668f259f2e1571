package where

import (
	"sloppyscope/api"
	"sloppyscope/hoist"
	"sloppyscope/tree"
)

// teller goes through a program and tells of its names as they come.
type teller struct {
	numbers map[*api.Node]int
	uses    []Use
}

func (t *teller) tell(n *api.Node, p place) {
	p.strict = p.strict || tree.Strict(n)
	switch n.Kind {
	case api.Name:
		owner, sure := p.inner.find(n.Text)
		t.uses = append(t.uses, Use{At: t.numbers[n], Scope: owner, Sure: sure})
	case api.Program:
		p = p.in(scope{owner: t.numbers[n], names: texts(hoist.Lets(n))})
	case api.Block:
		p = p.in(scope{owner: t.numbers[n], names: hoist.Names(n, false)})
	case api.Catch:
		p = p.in(scope{owner: t.numbers[n], names: []string{n.Text}})
	case api.With:
		t.tell(n.Kids[0], p) // worked out ahead of the scope that it makes
		t.tell(n.Kids[1], p.in(scope{open: true}))
		return
	case api.Func, api.Lambda:
		t.tellAll(n.Kids[1].Kids, t.function(n, p))
		return
	case api.Params:
		return // the names in it are no uses
	}
	t.tellAll(n.Kids, p)
}

func (t *teller) tellAll(nodes []*api.Node, p place) {
	for _, k := range nodes {
		t.tell(k, p)
	}
}

// function is where the statements of a function stand.
func (t *teller) function(n *api.Node, p place) place {
	params, block := n.Kids[0], n.Kids[1]
	p.strict = p.strict || tree.Strict(block)
	if n.Kind == api.Lambda {
		p = p.in(scope{owner: t.numbers[n], names: []string{n.Text}})
	}
	names := append(texts(params.Kids), "arguments")
	return p.in(scope{
		owner: t.numbers[n],
		names: append(names, hoist.Names(block, true)...),
		open:  !p.strict && Evals(block),
	})
}

func texts(nodes []*api.Node) []string {
	var l []string
	for _, n := range nodes {
		l = append(l, n.Text)
	}
	return l
}
