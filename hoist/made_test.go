package hoist_test

import (
	"math/rand"
	"slices"
	"strings"
	"testing"

	"sloppyscope/api"
	"sloppyscope/hoist"
	"sloppyscope/plain"
	"sloppyscope/tree"
)

// maker makes texts of programs in which few names stand in all places where names can stand.
type maker struct{ *rand.Rand }

func (m maker) of(l ...string) string { return l[m.Intn(len(l))] }

func (m maker) name() string { return m.of("a", "b", "c", "d", "e", "arguments") }

func (m maker) value(deep int) string {
	if deep <= 0 {
		return m.of(m.name(), m.name(), "1", "'a'")
	}
	v := func() string { return m.value(deep - 1 - m.Intn(2)) }
	switch m.Intn(7) {
	case 0:
		return "(" + m.name() + " = " + v() + ")"
	case 1:
		return m.of("!", "typeof ", "delete ") + "(" + v() + m.of(" + ", " || ") + v() + ")"
	case 2:
		return m.name() + "(" + v() + ", " + v() + ")"
	case 3:
		return m.name() + "." + m.name()
	case 4:
		return "({" + m.name() + ": " + v() + "})"
	case 5:
		return "(function" + m.function(deep) + ")"
	}
	return "(function " + m.name() + m.function(deep) + ")"
}

// function is what stands behind a function's name.
func (m maker) function(deep int) string {
	return "(" + m.of("", m.name(), m.name()+", "+m.name()) + ") {" + m.of("", "", "'use strict'; ") + m.statements(deep-1) + "}"
}

func (m maker) statement(deep int) string {
	v := func() string { return m.value(min(deep, 2)) }
	if deep <= 0 {
		return m.of("var "+m.name()+";", "let "+m.name()+";", v()+";", v()+";")
	}
	block := func() string { return "{" + m.statements(deep-1) + "}" }
	switch m.Intn(9) {
	case 0:
		return m.of("var ", "let ", "const ") + m.name() + " = " + v() + ";"
	case 1:
		return "function " + m.name() + m.function(deep)
	case 2:
		return block()
	case 3:
		return "if (" + v() + ") " + m.statement(deep-1) + m.of("", " else "+m.statement(deep-1))
	case 4:
		return m.of("while (", "with (") + v() + ") " + m.statement(deep-1)
	case 5:
		return m.of("return ", "throw ") + v() + ";"
	case 6, 7:
		return "try " + block() + m.of(" catch ("+m.name()+") "+block(), " finally "+block(), " catch ("+m.name()+") "+block()+" finally "+block())
	}
	return v() + ";"
}

func (m maker) statements(deep int) string {
	var l []string
	for range m.Intn(4) {
		l = append(l, m.statement(deep))
	}
	return strings.Join(l, " ")
}

// eachMade goes through the programs of made texts, of which some are too large.
func eachMade(t *testing.T, look func(text string, n *api.Node)) {
	m := maker{rand.New(rand.NewSource(3))}
	read := 0
	for range 3000 {
		text := m.statements(m.Intn(5))
		n, err := tree.Parse(text)
		if err != nil && api.Tell(err) != api.ErrLimit {
			t.Fatalf("%q: %v", text, err)
		}
		if err == nil && !t.Failed() {
			read++
			look(text, n)
		}
	}
	if read < 2000 {
		t.Errorf("%d were read", read)
	}
}

// eachPath goes through all nodes within a node, each with those around it, the outermost first.
func eachPath(n *api.Node, around []*api.Node, look func(k *api.Node, around []*api.Node)) {
	look(n, around)
	for _, k := range n.Kids {
		eachPath(k, append(slices.Clip(around), n), look)
	}
}

func isFunction(n *api.Node) bool { return n.Kind == api.Func || n.Kind == api.Lambda }

// declares says, by the words of 3.2, whether the node at a place of a path declares a name.
func declares(path []*api.Node, at int, name string) bool {
	n := path[at]
	switch {
	case n.Kind == api.Program:
		return slices.Contains(hoist.Names(n, true), name)
	case n.Kind == api.Block:
		return slices.Contains(hoist.Names(n, at > 0 && isFunction(path[at-1])), name)
	case isFunction(n):
		isIt := func(p *api.Node) bool { return p.Text == name }
		return name == "arguments" || slices.ContainsFunc(n.Kids[0].Kids, isIt) || n.Kind == api.Lambda && n.Text == name
	}
	return n.Kind == api.Catch && n.Text == name
}

func TestMadeNames(t *testing.T) {
	eachMade(t, func(text string, n *api.Node) {
		tree.Walk(n, func(n *api.Node) bool {
			var vars, funcs, lets []string
			eachPath(n, nil, func(k *api.Node, around []*api.Node) {
				if k.Kind == api.Var && k != n && !slices.ContainsFunc(around[1:], isFunction) {
					vars = append(vars, k.Text)
				}
				if len(around) == 1 && k.Kind == api.Func {
					funcs = append(funcs, k.Text)
				}
				if len(around) == 1 && (k.Kind == api.Let || k.Kind == api.Const) {
					lets = append(lets, k.Text)
				}
			})
			if !slices.Equal(hoist.Vars(n), each(vars)) {
				t.Errorf("%s: Vars %q, want %q", text, hoist.Vars(n), each(vars))
			}
			block := slices.Concat(funcs, lets)
			if got, want := hoist.Names(n, false), each(block); !slices.Equal(got, want) {
				t.Errorf("%s: Names without a body %q, want %q", text, got, want)
			}
			if got, want := hoist.Names(n, true), each(slices.Concat(vars, block)); !slices.Equal(got, want) {
				t.Errorf("%s: Names with a body %q, want %q", text, got, want)
			}
			return true
		})
	})
}

// each is every name once, where it stands first.
func each(names []string) (l []string) {
	for i, s := range names {
		if slices.Index(names, s) == i {
			l = append(l, s)
		}
	}
	return l
}

func TestMadeFree(t *testing.T) {
	eachMade(t, func(text string, n *api.Node) {
		var want []string
		eachPath(n, nil, func(k *api.Node, around []*api.Node) {
			if k.Kind != api.Name || around[len(around)-1].Kind == api.Params {
				return
			}
			for at := range around {
				if declares(around, at, k.Text) {
					return
				}
			}
			want = append(want, k.Text)
		})
		slices.Sort(want)
		if want = each(want); !slices.Equal(hoist.Free(n), want) {
			t.Errorf("%s: Free %q, want %q", text, hoist.Free(n), want)
		}
	})
}

// With a var for each of its free names a program has none; without one of these it has that one alone.
func TestMadeFreeWithVars(t *testing.T) {
	eachMade(t, func(text string, n *api.Node) {
		free := hoist.Free(n)
		for left := -1; left < len(free); left++ {
			s, want := text, ""
			for i, name := range free {
				if i == left {
					want = name
				} else {
					s += " var " + name + ";"
				}
			}
			if m, err := tree.Parse(s); err == nil {
				wantNames(t, s, hoist.Free(m), want)
			}
		}
	})
}

// In a function, a program's names are as free as they were, but arguments.
func TestMadeFreeInFunction(t *testing.T) {
	eachMade(t, func(text string, n *api.Node) {
		want := slices.DeleteFunc(hoist.Free(n), func(s string) bool { return s == "arguments" })
		for _, s := range []string{"function outer() {" + text + "}", "(function() {" + text + "});"} {
			if inner, err := tree.Parse(s); err == nil {
				wantNames(t, s, hoist.Free(inner), strings.Join(want, " "))
			}
		}
	})
}

// Nothing is changed by asking, and what is asked again is told again.
func TestMadeStay(t *testing.T) {
	eachMade(t, func(text string, n *api.Node) {
		ask := func() [][]string {
			return [][]string{hoist.Vars(n), hoist.Names(n, true), hoist.Names(n, false), hoist.Free(n)}
		}
		one, funcs, lets := ask(), hoist.Funcs(n), hoist.Lets(n)
		if !slices.EqualFunc(one, ask(), slices.Equal) || !slices.Equal(funcs, hoist.Funcs(n)) || !slices.Equal(lets, hoist.Lets(n)) {
			t.Errorf("%s: something else is told when it is asked again", text)
		}
		if !plain.Same(n, parse(t, text)) {
			t.Errorf("%s: the program was changed", text)
		}
	})
}
