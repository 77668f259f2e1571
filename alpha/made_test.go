package alpha_test

import (
	"math/rand"
	"slices"
	"strings"
	"testing"

	"sloppyscope/alpha"
	"sloppyscope/api"
	"sloppyscope/early"
	"sloppyscope/hoist"
	"sloppyscope/lex"
	"sloppyscope/plain"
	"sloppyscope/run"
	"sloppyscope/tree"
	"sloppyscope/where"
)

// Made programs: what must be true of all of them.

// maker draws programs in which few names stand in all places where names can stand.
type maker struct {
	*rand.Rand
	inside bool // in a function
}

func (m *maker) pick(l ...string) string { return l[m.Intn(len(l))] }

func (m *maker) name() string { return m.pick("a", "b", "c", "f", "g") }

func (m *maker) simple() string {
	return m.pick("0", "1", "'s'", "{}", "arguments.length", m.name(), m.name(), m.name(), m.name())
}

func (m *maker) value(deep int) string {
	if deep == 0 {
		return m.simple()
	}
	v := func() string { return m.value(deep - 1) }
	switch m.Intn(16) {
	case 0, 1:
		return "(" + m.name() + " = " + v() + ")"
	case 2:
		return "(" + v() + m.pick(" + ", " === ", " || ", " && ") + v() + ")"
	case 3:
		return m.pick("!", "typeof ", "delete ") + m.name()
	case 4:
		return m.name() + "." + m.name()
	case 5:
		return "{" + m.name() + ": " + v() + "}"
	case 6, 7, 8:
		return "(function " + m.pick("", m.name()) + "(" + m.name() + ", " + m.name() + ") " + m.body(deep-1) + ")(" + v() + ")"
	case 9:
		return m.name() + "(" + v() + ")"
	case 10:
		return m.pick(m.simple(), "eval('"+m.pick("var ", "let ", "")+m.name()+";')")
	case 11, 12:
		return "print(" + v() + ", " + m.name() + ")"
	}
	return m.simple()
}

// body is a function's block.
func (m *maker) body(deep int) string {
	around := m.inside
	m.inside = true
	defer func() { m.inside = around }()
	return "{" + m.pick("", "", "", "'use strict'; ") + m.list(deep) + "}"
}

func (m *maker) list(deep int) string {
	var l []string
	for range m.Intn(4) {
		l = append(l, m.statement(deep))
	}
	return strings.Join(l, " ")
}

func (m *maker) statement(deep int) string {
	v := m.value(min(deep, 2))
	if deep == 0 {
		return m.pick("var "+m.name()+" = "+v+";", "let "+m.name()+" = "+v+";", "print("+m.name()+");", "("+v+");")
	}
	block := func() string { return "{" + m.list(deep-1) + "}" }
	switch m.Intn(15) {
	case 0:
		return "var " + m.name() + m.pick("", " = "+v) + ";"
	case 1, 2:
		return m.pick("let ", "const ") + m.name() + " = " + v + ";"
	case 3, 4:
		name := m.name()
		return "function " + name + "(" + m.name() + ") " + m.body(deep-1) + m.pick("", " "+name+"("+v+");")
	case 5, 6:
		return block()
	case 7:
		return "if (" + v + ") " + block() + m.pick("", " else "+block())
	case 8:
		return m.pick(block(), "with ("+m.pick("{"+m.name()+": "+v+"}", m.name())+") "+block())
	case 9, 10, 11:
		return "try " + block() + m.pick(" finally "+block(), " catch ("+m.name()+") "+block(), " catch ("+m.name()+") "+block()+" finally "+block())
	case 12:
		if m.inside {
			return "return " + v + ";"
		}
	case 13:
		return "try {throw " + v + ";} catch (" + m.name() + ") " + block()
	}
	return "(" + v + ");"
}

// all declares every name, so that programs come further before something is thrown.
const all = "var a = {b: 1}; var b = 1; var c = {a: 1, f: 2}; var f = function(a) {a;}; var g = 's'; "

func (m *maker) program() string {
	s := m.pick("", "", "", "'use strict'; ") + m.pick("", "let "+m.name()+" = 1; ", all, all, all)
	for range 1 + m.Intn(4) {
		s += m.statement(1+m.Intn(4)) + " "
	}
	return s
}

// eachMade goes through the programs of made texts, but the great ones, of which each node would take long.
func eachMade(t *testing.T, many int, look func(text string, n *api.Node)) {
	m := maker{Rand: rand.New(rand.NewSource(8))}
	for many > 0 && !t.Failed() {
		text := m.program()
		n, err := tree.Parse(text)
		if err != nil && api.Tell(err) != api.ErrLimit {
			t.Fatalf("%q: %v", text, err)
		}
		if err == nil && len(nodes(n)) < 150 {
			many--
			look(text, n)
		}
	}
}

// eachPath goes through all nodes within a node, each with those around it, the outermost first.
func eachPath(n *api.Node, around []*api.Node, look func(k *api.Node, around []*api.Node)) {
	look(n, around)
	for _, k := range n.Kids {
		eachPath(k, append(slices.Clip(around), n), look)
	}
}

// function is the innermost one around.
func function(around []*api.Node) *api.Node {
	for _, k := range slices.Backward(around) {
		if isFunction(k) {
			return k
		}
	}
	return nil
}

// declares is the node in whose scope a node declares its name, by the words of 8.1, seen from the node that declares; nil: none.
func declares(k *api.Node, around []*api.Node) *api.Node {
	if k.Kind == api.Catch {
		return k
	}
	if k.Kind == api.Var {
		return function(around)
	}
	if len(around) == 0 {
		return nil
	}
	parent := around[len(around)-1]
	let := k.Kind == api.Let || k.Kind == api.Const
	switch {
	case k.Kind == api.Name && parent.Kind == api.Params:
		return function(around)
	case let && parent.Kind == api.Program:
		return parent
	case (let || k.Kind == api.Func) && parent.Kind == api.Block:
		if len(around) > 1 && isFunction(around[len(around)-2]) {
			return around[len(around)-2]
		}
		return parent
	}
	return nil
}

// owners are of each node the number of the one in whose scope it declares its name, or finds it; -1: none.
func owners(n *api.Node) []int {
	numbers := run.Number(n)
	l := make([]int, len(numbers))
	eachPath(n, nil, func(k *api.Node, around []*api.Node) {
		l[numbers[k]] = -1
		if owner := declares(k, around); owner != nil {
			l[numbers[k]] = numbers[owner]
		}
	})
	for _, u := range where.Of(n) {
		l[u.At] = u.Scope
	}
	return l
}

// owns are the names of the scope of a node, by the words of 8.1.
func owns(n *api.Node, around []*api.Node) (l []string) {
	var names []string
	switch n.Kind {
	case api.Program:
		for _, k := range hoist.Lets(n) {
			names = append(names, k.Text)
		}
	case api.Func, api.Lambda:
		for _, k := range n.Kids[0].Kids {
			names = append(names, k.Text)
		}
		names = append(names, hoist.Names(n.Kids[1], true)...)
	case api.Block:
		if len(around) == 0 || !isFunction(around[len(around)-1]) {
			names = hoist.Names(n, false)
		}
	case api.Catch:
		names = []string{n.Text}
	}
	for i, name := range names {
		if slices.Index(names, name) == i {
			l = append(l, name)
		}
	}
	return l
}

func TestMadeOwns(t *testing.T) {
	kinds := map[int]int{} // how many scopes there are of a kind
	eachMade(t, 500, func(text string, program *api.Node) {
		for _, n := range append([]*api.Node{program}, program.Kids...) {
			numbers, declared := run.Number(n), owners(n)
			l := nodes(n)
			eachPath(n, nil, func(k *api.Node, around []*api.Node) {
				at, want := numbers[k], owns(k, around)
				got, ok := alpha.Owns(n, at)
				if !slices.Equal(got, want) || ok != (len(want) > 0) {
					t.Fatalf("%s: node %d: %q, %t, want %q", text, at, got, ok, want)
				}
				if ok {
					kinds[k.Kind]++
				}
				// Each of the names is declared by a node, and each node that declares there tells one.
				for _, name := range want {
					if !slices.ContainsFunc(l, func(d *api.Node) bool { return d.Text == name && declared[numbers[d]] == at }) {
						t.Fatalf("%s: nothing declares %s of node %d", text, name, at)
					}
				}
			})
		}
	})
	for _, kind := range []int{api.Program, api.Block, api.Catch, api.Func, api.Lambda} {
		if kinds[kind] < 100 {
			t.Errorf("only %d scopes of kind %d", kinds[kind], kind)
		}
	}
}

// why is why a name may not be changed, by the words of 8.2.
func why(n *api.Node, at int, old, other string) (e api.Errno) {
	if l, _ := alpha.Owns(n, at); !slices.Contains(l, old) {
		return api.ErrMissing
	}
	for _, s := range []string{old, other} {
		if s == "eval" || s == "arguments" || !lex.IsName(s) {
			return api.ErrName
		}
	}
	named := []int{api.Var, api.Let, api.Const, api.Func, api.Lambda, api.Catch, api.Name}
	for _, k := range nodes(n) {
		if slices.Contains(named, k.Kind) && k.Text == other {
			return api.ErrTwice
		}
	}
	for _, k := range nodes(nodes(n)[at]) {
		if k.Kind == api.With || k.Kind == api.Name && k.Text == "eval" || k.Kind == api.Catch && k.Text == old && slices.Contains(hoist.Vars(k), old) {
			return api.ErrArg
		}
	}
	return api.OK
}

// wantWords wants a name to be changed, or not, as the words of the document say; lies are the owners of the nodes.
func wantWords(t *testing.T, n *api.Node, lies []int, at int, old, other string) api.Errno {
	t.Helper()
	got, err := alpha.Rename(n, at, old, other)
	want := why(n, at, old, other)
	if api.Tell(err) != want || (got == nil) != (want != api.OK) {
		t.Fatalf("%snode %d, %s to %s: %v, want %d", tree.Text(n), at, old, other, err, want)
	}
	l := nodes(n)
	for i, k := range nodes(got) {
		text := l[i].Text
		if text == old && lies[i] == at {
			text = other
		}
		if k.Kind != l[i].Kind || k.N != l[i].N || k.Text != text || len(k.Kids) != len(l[i].Kids) {
			t.Fatalf("%snode %d, %s to %s: node %d is %q, want %q", tree.Text(n), at, old, other, i, k.Text, text)
		}
	}
	return want
}

// What is changed, and why something isn't, is what the words of the document say, of a program and of each part of it.
func TestMadeByTheWords(t *testing.T) {
	count := map[api.Errno]int{}
	m := maker{Rand: rand.New(rand.NewSource(9))}
	eachMade(t, 1000, func(text string, program *api.Node) {
		for _, n := range append([]*api.Node{program}, program.Kids...) {
			numbers, lies := run.Number(n), owners(n)
			eachPath(n, nil, func(k *api.Node, around []*api.Node) {
				at := numbers[k]
				for _, old := range owns(k, around) {
					count[wantWords(t, n, lies, at, old, m.pick("z", "z", "z", m.name(), "eval", "1"))]++
				}
			})
			count[wantWords(t, n, lies, m.Intn(len(lies)+2)-1, m.name(), "z")]++
		}
	})
	for _, e := range []api.Errno{api.OK, api.ErrMissing, api.ErrName, api.ErrTwice, api.ErrArg} {
		if count[e] < 300 {
			t.Errorf("error %d was answered only %d times", e, count[e])
		}
	}
}

// eachRenamed goes through made programs in which a name is z instead.
func eachRenamed(t *testing.T, many int, look func(n, c *api.Node, at int, old string)) {
	eachMade(t, many, func(text string, n *api.Node) {
		numbers := run.Number(n)
		eachPath(n, nil, func(k *api.Node, around []*api.Node) {
			for _, old := range owns(k, around) {
				if c, err := alpha.Rename(n, numbers[k], old, "z"); err == nil {
					look(n, c, numbers[k], old)
				}
			}
		})
		if !plain.Same(n, parse(t, text)) {
			t.Errorf("%s was changed", text)
		}
	})
}

// A name does not matter: with another one in its place a program does the same, step by step.
func TestMadeSameRun(t *testing.T) {
	var runs, seen int
	ends := map[int]int{}
	eachRenamed(t, 1500, func(n, c *api.Node, at int, old string) {
		if early.Check(n, false, false) != nil {
			return
		}
		want, _ := run.Run(n)
		got, err := run.Run(c)
		same := got.Code == want.Code && got.Value == want.Value && got.Steps == want.Steps
		if err != nil || !same || !slices.Equal(got.Log, want.Log) || !slices.Equal(got.Seen, want.Seen) {
			t.Fatalf("%sdoes %v\n%sdoes %v, %v", tree.Text(n), want, tree.Text(c), got, err)
		}
		runs++
		ends[want.Code]++
		if slices.ContainsFunc(want.Seen, func(pair [2]int) bool { return pair[1] == at }) {
			seen++
		}
	})
	if runs < 1000 || seen < 200 || ends[run.Done] < 200 || ends[run.Thrown] < 200 {
		t.Errorf("%d programs ran, in %d of them names of the scope were seen; ends %v", runs, seen, ends)
	}
}

// Names lie where they lay, the scope has the other name in place of the old one, the text tells the program, and nothing is shared.
func TestMadeRenamed(t *testing.T) {
	back := 0
	eachRenamed(t, 800, func(n, c *api.Node, at int, old string) {
		if !slices.Equal(where.Of(c), where.Of(n)) {
			t.Errorf("%snames lie elsewhere than in\n%s", tree.Text(c), tree.Text(n))
		}
		want, _ := alpha.Owns(n, at)
		want[slices.Index(want, old)] = "z"
		if got, _ := alpha.Owns(c, at); !slices.Equal(got, want) {
			t.Errorf("%snode %d owns %q, want %q", tree.Text(c), at, got, want)
		}
		if !plain.Same(parse(t, tree.Text(c)), c) {
			t.Errorf("%sis another program when it is read", tree.Text(c))
		}
		wantApart(t, n, c)
		again, err := alpha.Rename(c, at, "z", old)
		if err == nil && !plain.Same(again, n) {
			t.Errorf("%scomes back as\n%s", tree.Text(n), tree.Text(again))
		}
		if err == nil {
			back++
		} else if err != api.ErrTwice {
			t.Errorf("%scan't come back: %v", tree.Text(c), err)
		}
	})
	if back < 100 {
		t.Errorf("only %d came back", back)
	}
}

func TestMadeCopy(t *testing.T) {
	eachMade(t, 500, func(text string, n *api.Node) {
		c := alpha.Copy(n)
		if !plain.Same(c, n) || tree.Text(c) != tree.Text(n) {
			t.Errorf("%s: the copy is %s", text, tree.Text(c))
		}
		wantApart(t, n, c)
	})
}
