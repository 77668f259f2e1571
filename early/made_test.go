package early_test

import (
	"math/rand"
	"slices"
	"strings"
	"testing"

	"sloppyscope/api"
	"sloppyscope/early"
	"sloppyscope/plain"
	"sloppyscope/tree"
)

// maker makes texts of programs in which something may be wrong anywhere, but seldom much.
type maker struct{ *rand.Rand }

func (m maker) of(l ...string) string { return l[m.Intn(len(l))] }

func (m maker) name() string {
	if m.Intn(25) == 0 {
		return m.of("eval", "arguments")
	}
	return m.of("a", "b", "c", "d", "e", "g", "h", "i")
}

func (m maker) value(deep int) string {
	if deep <= 0 {
		return m.of(m.name(), "1", "'a'", m.name()+" = 1", "delete "+m.name()+".a")
	}
	v := func() string { return "(" + m.value(deep-1-m.Intn(2)) + ")" }
	switch m.Intn(9) {
	case 0:
		return m.name() + " = " + v()
	case 1:
		return m.of("!", "typeof ", "delete ") + v()
	case 2:
		return v() + m.of(" + ", " || ", " === ") + v()
	case 3:
		return v() + "(" + v() + ", " + v() + ")"
	case 4:
		return v() + "." + m.name() + m.of("", " = "+v())
	case 5:
		return "{" + m.name() + ": " + v() + ", " + m.name() + ": " + v() + "}"
	case 6:
		return m.name()
	case 7:
		return "function" + m.function(deep)
	}
	return "function " + m.name() + m.function(deep)
}

// function is what stands behind a function's name.
func (m maker) function(deep int) string {
	return "(" + m.of("", m.name(), m.name()+", "+m.name()+", "+m.name()) + ") {" + m.of("", "", "'use strict'; ", "; 'use strict'; ") + m.statements(deep-1) + "}"
}

func (m maker) statement(deep int) string {
	v := func() string { return "(" + m.value(min(deep, 2)) + ")" }
	if deep <= 0 {
		return m.of("var "+m.name()+";", "let "+m.name()+";", v()+";", ";")
	}
	block := func() string { return "{" + m.statements(deep-1) + "}" }
	inner := func() string {
		if m.Intn(2) == 0 {
			return block()
		}
		return m.statement(deep - 1)
	}
	switch m.Intn(9) {
	case 0, 1:
		return m.of("var ", "let ", "const ") + m.name() + " = " + v() + ";"
	case 2:
		return "function " + m.name() + m.function(deep)
	case 3:
		return block()
	case 4:
		return "if (" + v() + ") " + inner() + m.of("", " else "+inner())
	case 5:
		return m.of("while (", "with (") + v() + ") " + inner()
	case 6:
		return m.of("return ", "throw ", "throw ") + v() + ";"
	case 7:
		return "try " + block() + m.of(" catch ("+m.name()+") "+block(), " finally "+block(), " catch ("+m.name()+") "+block()+" finally "+block())
	}
	return v() + ";"
}

func (m maker) statements(deep int) string {
	var l []string
	for range m.Intn(5) {
		l = append(l, m.statement(deep))
	}
	return strings.Join(l, " ")
}

// eachMade goes through the programs of made texts, of which some are too large.
func eachMade(t *testing.T, look func(text string, n *api.Node)) {
	m := maker{rand.New(rand.NewSource(4))}
	read := 0
	for range 6000 {
		text := m.of("", "", "'use strict'; ") + m.statements(m.Intn(4))
		n, err := tree.Parse(text)
		if err != nil && api.Tell(err) != api.ErrLimit {
			_, at := plain.Place(err)
			t.Fatalf("%q: %v at %d", text, err, at)
		}
		if err == nil && !t.Failed() {
			read++
			look(text, n)
		}
	}
	if read < 4000 {
		t.Errorf("%d were read", read)
	}
}

// eachPath goes through all nodes within a node, each at the end of those around it, until look finds something.
func eachPath(n *api.Node, around []*api.Node, look func(path []*api.Node) api.Errno) api.Errno {
	path := append(slices.Clip(around), n)
	e := look(path)
	for _, k := range n.Kids {
		if e == api.OK {
			e = eachPath(k, path, look)
		}
	}
	return e
}

func isFunction(n *api.Node) bool { return n.Kind == api.Func || n.Kind == api.Lambda }

// isDirected says whether what stands in a node begins with the directive.
func isDirected(n *api.Node) bool {
	if isFunction(n) {
		n = n.Kids[1]
	} else if n.Kind != api.Program {
		return false
	}
	return len(n.Kids) > 0 && n.Kids[0].Kind == api.Expr && n.Kids[0].Kids[0].Kind == api.Str && n.Kids[0].Kids[0].Text == "use strict"
}

// textsOf are the names of the nodes of some kinds, a node's own Kids or (deep) all within it, but in functions.
func textsOf(n *api.Node, deep bool, kinds ...int) (l []string) {
	for _, k := range n.Kids {
		if slices.Contains(kinds, k.Kind) {
			l = append(l, k.Text)
		}
		if deep && !isFunction(k) {
			l = append(l, textsOf(k, true, kinds...)...)
		}
	}
	return l
}

// meet says whether two lists have a name in common.
func meet(one, other []string) bool {
	return slices.ContainsFunc(one, func(s string) bool { return slices.Contains(other, s) })
}

// hasTwice says whether a name is in a list twice.
func hasTwice(names []string) bool {
	l := slices.Sorted(slices.Values(names))
	return len(slices.Compact(l)) < len(names)
}

// clash is, by the words of 4.1, whether a program or a Block declares a name twice.
func clash(n *api.Node, body bool) bool {
	vars, funcs, lets := textsOf(n, true, api.Var), textsOf(n, false, api.Func), textsOf(n, false, api.Let, api.Const)
	if hasTwice(lets) || meet(lets, funcs) || meet(lets, vars) {
		return true
	}
	return !body && (hasTwice(funcs) || meet(funcs, vars))
}

// wrongWith is, by the words of 4.1, what is wrong with the last node of a path, whatever is within it.
func wrongWith(path []*api.Node, strict, inside bool) api.Errno {
	n, around := path[len(path)-1], path[:len(path)-1]
	strict = strict || slices.ContainsFunc(path, isDirected)
	inside = inside || slices.ContainsFunc(around, isFunction)
	body := n.Kind == api.Program || len(around) > 0 && isFunction(around[len(around)-1])
	kept := func(name string) bool { return strict && (name == "eval" || name == "arguments") }
	alone := textsOf(n, false, api.Let, api.Const, api.Func)
	switch k := n.Kind; {
	case (k == api.Program || k == api.Block) && clash(n, body):
		return api.ErrTwice
	case isFunction(n):
		return wrongWithFunction(n, strict)
	case (k == api.Var || k == api.Let || k == api.Const || k == api.Catch) && kept(n.Text):
		return api.ErrName
	case k == api.Catch && meet([]string{n.Text}, textsOf(n.Kids[0], false, api.Let, api.Const, api.Func)):
		return api.ErrTwice
	case k == api.With && strict, (k == api.If || k == api.While || k == api.With) && len(alone) > 0:
		return api.ErrArg
	case k == api.Return && !inside:
		return api.ErrState
	case k == api.Assign && n.Kids[0].Kind == api.Name && kept(n.Kids[0].Text):
		return api.ErrName
	case k == api.Delete && n.Kids[0].Kind == api.Name && strict:
		return api.ErrArg
	}
	return api.OK
}

func wrongWithFunction(n *api.Node, strict bool) api.Errno {
	names := append([]string{n.Text}, textsOf(n.Kids[0], false, api.Name)...)
	for i := 0; strict && i < len(names); i++ {
		switch {
		case names[i] == "eval" || names[i] == "arguments":
			return api.ErrName
		case i > 0 && slices.Contains(names[1:i], names[i]):
			return api.ErrTwice
		}
	}
	if meet(names[1:], textsOf(n.Kids[1], false, api.Let, api.Const)) {
		return api.ErrTwice
	}
	return api.OK
}

// eachCheck asks for all that the arguments can be.
func eachCheck(look func(strict, inside bool)) {
	for _, strict := range []bool{false, true} {
		look(strict, false)
		look(strict, true)
	}
}

func TestMade(t *testing.T) {
	found := map[api.Errno]int{}
	eachMade(t, func(text string, n *api.Node) {
		eachCheck(func(strict, inside bool) {
			want := eachPath(n, nil, func(path []*api.Node) api.Errno { return wrongWith(path, strict, inside) })
			wantError(t, text, n, strict, inside, want)
			found[want]++
		})
	})
	for _, e := range []api.Errno{api.OK, api.ErrArg, api.ErrName, api.ErrState, api.ErrTwice} {
		if found[e] < 500 {
			t.Errorf("error %d was found %d times", e, found[e])
		}
	}
}

// Every statement of a program is asked alone, too, so that nothing hides behind what is wrong ahead of it.
func TestMadeStatements(t *testing.T) {
	eachMade(t, func(text string, n *api.Node) {
		tree.Walk(n, func(k *api.Node) bool {
			for _, s := range k.Kids {
				if k.Kind != api.Program && k.Kind != api.Block || s.Kind == api.Block {
					continue
				}
				p := &api.Node{Kind: api.Program, Kids: []*api.Node{s}}
				alone := parse(t, tree.Text(p))
				eachCheck(func(strict, inside bool) {
					want := eachPath(alone, nil, func(path []*api.Node) api.Errno { return wrongWith(path, strict, inside) })
					wantError(t, tree.Text(p), alone, strict, inside, want)
				})
			}
			return true
		})
	})
}

// What is right in strict code is right elsewhere; what is right outside of functions is right inside.
func TestMadeRight(t *testing.T) {
	eachMade(t, func(text string, n *api.Node) {
		if early.Check(n, true, true) == nil {
			wantError(t, text, n, false, true, api.OK)
		}
		if early.Check(n, true, false) == nil {
			wantError(t, text, n, false, false, api.OK)
			wantError(t, text, n, true, true, api.OK)
		}
		if early.Check(n, false, false) == nil {
			wantError(t, text, n, false, true, api.OK)
		}
	})
}

// A directive does what the argument does, and a function around does what the other one does.
func TestMadeArguments(t *testing.T) {
	eachMade(t, func(text string, n *api.Node) {
		if m, err := tree.Parse("'use strict'; " + text); err == nil {
			wantError(t, text, m, false, false, api.Tell(early.Check(n, true, false)))
			wantError(t, text, m, false, true, api.Tell(early.Check(n, true, true)))
		}
		for _, s := range []string{"function outer() {" + text + "}", "(function() {" + text + "});"} {
			if m, err := tree.Parse(s); err == nil {
				eachCheck(func(strict, inside bool) {
					wantError(t, s, m, strict, inside, api.Tell(early.Check(n, strict, true)))
				})
			}
		}
	})
}

// Nothing is changed by asking, and what is asked again is told again.
func TestMadeStay(t *testing.T) {
	eachMade(t, func(text string, n *api.Node) {
		eachCheck(func(strict, inside bool) {
			one := early.Check(n, strict, inside)
			wantError(t, text, n, strict, inside, api.Tell(one))
		})
		if !plain.Same(n, parse(t, text)) {
			t.Errorf("%s: the program was changed", text)
		}
	})
}

// Every part of a program can be asked.
func TestEveryPart(t *testing.T) {
	n := parse(t, "'use strict'; var a = 1; let b; const c = 's'; function f(a, b) {return a.b; return;} {;} if (!a) throw typeof b; else delete c; while (a < b) with (f) x = {p: true, q: null}; try {a(b, undefined);} catch (e) {e === false;} finally {(function g() {a + b - c * e || f && g;});}")
	kinds := map[int]int{}
	tree.Walk(n, func(k *api.Node) bool {
		kinds[k.Kind]++
		eachCheck(func(strict, inside bool) { early.Check(k, strict, inside) })
		return true
	})
	for kind := api.Program; kind <= api.Params; kind++ {
		if kinds[kind] == 0 {
			t.Errorf("no node of kind %d was asked", kind)
		}
	}
}
