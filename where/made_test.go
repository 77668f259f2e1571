package where_test

import (
	"math/rand"
	"slices"
	"strings"
	"testing"

	"sloppyscope/api"
	"sloppyscope/early"
	"sloppyscope/hoist"
	"sloppyscope/plain"
	"sloppyscope/run"
	"sloppyscope/tree"
	"sloppyscope/where"
)

// Made programs: what must be true of all of them.

// maker draws programs in which few names stand in all places where names can stand.
type maker struct {
	*rand.Rand
	inside bool // in a function
}

func (m *maker) pick(l ...string) string { return l[m.Intn(len(l))] }

func (m *maker) name() string { return m.pick("a", "b", "c", "f", "g") }

func (m *maker) simple() string {
	return m.pick("0", "1", "'s'", "{}", "arguments", m.name(), m.name(), m.name(), m.name())
}

func (m *maker) value(deep int) string {
	if deep == 0 {
		return m.simple()
	}
	v := func() string { return m.value(deep - 1) }
	switch m.Intn(14) {
	case 0, 1:
		return "(" + m.name() + " = " + v() + ")"
	case 2:
		return "(" + v() + m.pick(" + ", " === ", " || ", " && ") + v() + ")"
	case 3:
		return m.pick("!", "typeof ") + "(" + v() + ")"
	case 4:
		return m.name() + "." + m.pick(m.name(), "eval()")
	case 5:
		return "{" + m.name() + ": " + v() + "}"
	case 6, 7:
		return "(function " + m.pick("", m.name()) + "(" + m.name() + ") " + m.body(deep-1) + ")(" + v() + ")"
	case 8:
		return m.name() + "(" + v() + ")"
	case 9, 10:
		return "eval('" + m.code() + "')"
	case 11:
		return m.pick("(0 || eval)", "evals") + "('" + m.code() + "')"
	}
	return m.simple()
}

// code is a text for eval, that declares what the program around it doesn't tell.
func (m *maker) code() string {
	return m.pick("var "+m.name()+" = 1;", "function "+m.name()+"() {}", "let "+m.name()+";", m.name()+";", "delete "+m.name()+";")
}

// body is a function's block.
func (m *maker) body(deep int) string {
	around := m.inside
	m.inside = true
	defer func() { m.inside = around }()
	return "{" + m.pick("", "", "", "'use strict'; ") + m.list(deep) + "}"
}

func (m *maker) list(deep int) string {
	var l []string
	for range m.Intn(4) {
		l = append(l, m.statement(deep))
	}
	return strings.Join(l, " ")
}

func (m *maker) statement(deep int) string {
	v := m.value(min(deep, 2))
	if deep == 0 {
		return m.pick("var "+m.name()+" = "+v+";", "let "+m.name()+" = "+v+";", m.name()+";", "("+v+");")
	}
	block := func() string { return "{" + m.list(deep-1) + "}" }
	switch m.Intn(14) {
	case 0:
		return "var " + m.name() + m.pick("", " = "+v) + ";"
	case 1:
		return m.pick("let ", "const ") + m.name() + " = " + v + ";"
	case 2:
		name := m.name()
		return "function " + name + "(" + m.name() + ", " + m.name() + ") " + m.body(deep-1) + m.pick("", " "+name+"();")
	case 3:
		return block()
	case 4:
		return "if (" + v + ") " + block() + m.pick("", " else "+block())
	case 5, 6, 7:
		return "with (" + m.pick("{"+m.name()+": "+v+"}", m.name()) + ") " + m.pick(block(), m.name()+";")
	case 8, 9:
		return "try " + block() + m.pick(" finally "+block(), " catch ("+m.name()+") "+block(), " catch ("+m.name()+") "+block()+" finally "+block())
	case 10:
		if m.inside {
			return "return " + v + ";"
		}
	case 11, 12:
		return "eval('" + m.code() + "'); " + m.name() + ";"
	}
	return "(" + v + ");"
}

// all declares every name, so that programs come further before something is thrown.
const all = "var a = {b: 1}; var b = 1; var c = {a: 1, f: 2}; var f = function(a) {a;}; var g = 's'; "

func (m *maker) program() string {
	s := m.pick("", "", "", "'use strict'; ") + m.pick("", "let "+m.name()+"; ", all, all, all)
	for range 1 + m.Intn(4) {
		s += m.statement(1+m.Intn(4)) + " "
	}
	return s
}

// eachMade goes through the programs of made texts, of which some are too large.
func eachMade(t *testing.T, look func(text string, n *api.Node)) {
	m := maker{Rand: rand.New(rand.NewSource(7))}
	read := 0
	for range 4000 {
		text := m.program()
		n, err := tree.Parse(text)
		if err != nil && api.Tell(err) != api.ErrLimit {
			t.Fatalf("%q: %v", text, err)
		}
		if err == nil && !t.Failed() {
			read++
			look(text, n)
		}
	}
	if read < 3000 {
		t.Errorf("only %d were read", read)
	}
}

// eachPath goes through all nodes within a node, each with those around it, the outermost first.
func eachPath(n *api.Node, around []*api.Node, look func(k *api.Node, around []*api.Node)) {
	look(n, around)
	for _, k := range n.Kids {
		eachPath(k, append(slices.Clip(around), n), look)
	}
}

func isFunction(n *api.Node) bool { return n.Kind == api.Func || n.Kind == api.Lambda }

// evals says by the words of 7.1, and by the text of what is called, whether there is a call of eval in a node.
func evals(n *api.Node) (found bool) {
	eachPath(n, nil, func(k *api.Node, around []*api.Node) {
		if k.Kind != api.Name || k.Text != "eval" || len(around) == 0 {
			return
		}
		parent := around[len(around)-1]
		between := slices.ContainsFunc(around, func(a *api.Node) bool { return a != n && isFunction(a) })
		found = found || parent.Kind == api.Call && parent.Kids[0] == k && !between
	})
	return found
}

func textsOf(nodes []*api.Node) (l []string) {
	for _, n := range nodes {
		l = append(l, n.Text)
	}
	return l
}

// strictAt says whether the node at a place of a path, or what is in it next, is strict code.
func strictAt(path []*api.Node, at int) bool {
	return slices.ContainsFunc(path[:min(at+2, len(path))], tree.Strict)
}

// lies is where the last Name of a path lies, by the words of 7.1, from the innermost on.
func lies(path []*api.Node, numbers map[*api.Node]int) (scope int, sure bool) {
	sure = true
	name := path[len(path)-1].Text
	for at := len(path) - 2; at >= 0; at-- {
		n := path[at]
		var names []string
		switch n.Kind {
		case api.Block:
			if at == 0 || !isFunction(path[at-1]) {
				names = hoist.Names(n, false)
			}
		case api.Catch:
			names = []string{n.Text}
		case api.Func, api.Lambda:
			names = slices.Concat(textsOf(n.Kids[0].Kids), []string{"arguments"}, hoist.Names(n.Kids[1], true))
		case api.Program:
			names = textsOf(hoist.Lets(n))
		}
		if slices.Contains(names, name) {
			return numbers[n], sure
		}
		if n.Kind == api.With && path[at+1] == n.Kids[1] || isFunction(n) && !strictAt(path, at) && evals(n.Kids[1]) {
			sure = false
		}
		if n.Kind == api.Lambda && n.Text == name {
			return numbers[n], sure
		}
	}
	return run.Global, sure
}

// Where names lie is what the words of the document say, of a program and of each part of it.
func TestMadeByTheWords(t *testing.T) {
	kinds := map[int]int{} // how many uses lie in a scope of a kind
	unsure := 0
	eachMade(t, func(text string, program *api.Node) {
		for _, n := range append([]*api.Node{program}, program.Kids...) {
			numbers, l := run.Number(n), nodes(n)
			var want []where.Use
			eachPath(n, nil, func(k *api.Node, around []*api.Node) {
				if k.Kind != api.Name || len(around) > 0 && around[len(around)-1].Kind == api.Params {
					return
				}
				scope, sure := lies(append(slices.Clip(around), k), numbers)
				want = append(want, where.Use{At: numbers[k], Scope: scope, Sure: sure})
				if scope >= 0 {
					kinds[l[scope].Kind]++
				}
				if !sure {
					unsure++
				}
			})
			if got := where.Of(n); !slices.Equal(got, want) {
				t.Errorf("%s\n\ttold %s\n\twant %s", text, told(n, got), told(n, want))
			}
		}
	})
	for _, kind := range []int{api.Program, api.Block, api.Catch, api.Func, api.Lambda} {
		if kinds[kind] < 100 {
			t.Errorf("only %d uses lie in scopes of kind %d", kinds[kind], kind)
		}
	}
	if unsure < 1000 {
		t.Errorf("only %d uses are not sure", unsure)
	}
}

func TestMadeEvals(t *testing.T) {
	count := [2]int{}
	eachMade(t, func(text string, n *api.Node) {
		for _, k := range nodes(n) {
			want := evals(k)
			if got := where.Evals(k); got != want {
				t.Errorf("%s, a part of kind %d: %t, want %t", text, k.Kind, got, want)
			}
			if isFunction(k) && want {
				count[1]++
			} else if isFunction(k) {
				count[0]++
			}
		}
	})
	if count[0] < 500 || count[1] < 500 {
		t.Errorf("%v functions eval or don't", count)
	}
}

// What is sure ahead is so: wherever a name is found while a program runs, it is in the scope that was told ahead.
func TestMadeSure(t *testing.T) {
	var sure, so, other int
	eachMade(t, func(text string, n *api.Node) {
		if early.Check(n, false, false) != nil {
			return
		}
		r, _ := run.Run(n)
		ahead := map[int]where.Use{}
		for _, u := range where.Of(n) {
			ahead[u.At] = u
		}
		for _, pair := range r.Seen {
			u, ok := ahead[pair[0]]
			switch {
			case !ok:
				t.Fatalf("%s: node %d was seen, but not told of", text, pair[0])
			case u.Sure && u.Scope != pair[1]:
				t.Fatalf("%s: node %d was seen in %d, but was to be in %d for sure", text, u.At, pair[1], u.Scope)
			case u.Sure:
				sure++
			case u.Scope == pair[1]:
				so++
			default:
				other++
			}
		}
	})
	if sure < 1000 || so < 100 || other < 100 {
		t.Errorf("%d seen were sure, of the others %d were so and %d elsewhere", sure, so, other)
	}
}

// The free names (3.2) are those that lie in no scope but the global one, and that the program declares nowhere.
func TestMadeFree(t *testing.T) {
	eachMade(t, func(text string, n *api.Node) {
		l := nodes(n)
		var names []string
		for _, u := range where.Of(n) {
			if name := l[u.At].Text; u.Scope == run.Global && !slices.Contains(hoist.Names(n, true), name) {
				names = append(names, name)
			}
		}
		slices.Sort(names)
		if names = slices.Compact(names); !slices.Equal(names, hoist.Free(n)) {
			t.Errorf("%s: %q lie nowhere, %q are free", text, names, hoist.Free(n))
		}
	})
}

// Nothing is changed by asking, and what is asked again is told again.
func TestMadeStay(t *testing.T) {
	eachMade(t, func(text string, n *api.Node) {
		one, evals := where.Of(n), where.Evals(n)
		if !slices.Equal(one, where.Of(n)) || evals != where.Evals(n) {
			t.Errorf("%s: something else is told when it is asked again", text)
		}
		if !plain.Same(n, parse(t, text)) {
			t.Errorf("%s: the program was changed", text)
		}
	})
}
