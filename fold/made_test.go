package fold_test

import (
	"math/rand"
	"slices"
	"strconv"
	"strings"
	"testing"

	"sloppyscope/alpha"
	"sloppyscope/api"
	"sloppyscope/early"
	"sloppyscope/fold"
	"sloppyscope/plain"
	"sloppyscope/run"
	"sloppyscope/tree"
)

// Made programs: what must be true of all of them. What a value comes to is asked of run.

// isLiteral is by the words of 9.1.
func isLiteral(n *api.Node) bool {
	return slices.Contains([]int{api.Num, api.Str, api.True, api.False, api.Null, api.Undef}, n.Kind)
}

// printed is what a program prints that prints a value's type, and the value; false: it throws.
func printed(t *testing.T, v *api.Node) (word, shown string, ok bool) {
	t.Helper()
	node := func(kind int, kids ...*api.Node) *api.Node { return &api.Node{Kind: kind, Kids: kids} }
	call := node(api.Call, &api.Node{Kind: api.Name, Text: "print"}, node(api.Typeof, alpha.Copy(v)), alpha.Copy(v))
	r, err := run.Run(node(api.Program, node(api.Expr, call)))
	if err != nil || r.Code == run.Stopped {
		t.Fatalf("kind %d: %v", v.Kind, err)
	}
	if r.Code == run.Thrown {
		return "", "", false
	}
	word, shown, ok = strings.Cut(r.Log[0], " ")
	return word, shown, ok
}

// ran is the literal of what a value of literals comes to when it is run; nil: it throws, or there is none.
func ran(t *testing.T, v *api.Node) *api.Node {
	t.Helper()
	word, shown, ok := printed(t, v)
	if !ok {
		return nil
	}
	if word == "string" {
		return &api.Node{Kind: api.Str, Text: shown}
	}
	if n, err := strconv.Atoi(shown); err == nil {
		if n < 0 {
			return nil
		}
		return &api.Node{Kind: api.Num, N: n}
	}
	for kind, s := range map[int]string{api.True: "true", api.False: "false", api.Null: "null", api.Undef: "undefined"} {
		if s == shown {
			return &api.Node{Kind: kind}
		}
	}
	t.Fatalf("kind %d: %s is nothing that comes of literals", v.Kind, shown)
	return nil
}

// comesTo is what is known of a value whose parts are done, by the words of 9.1; nil: nothing.
func comesTo(t *testing.T, n *api.Node) *api.Node {
	t.Helper()
	switch n.Kind {
	case api.Not, api.Typeof:
		if isLiteral(n.Kids[0]) {
			return ran(t, n)
		}
	case api.Same, api.Less, api.Add, api.Sub, api.Mul:
		if isLiteral(n.Kids[0]) && isLiteral(n.Kids[1]) {
			return ran(t, n)
		}
	case api.Or, api.And:
		if !isLiteral(n.Kids[0]) {
			return nil
		}
		_, no, _ := printed(t, &api.Node{Kind: api.Not, Kids: n.Kids[:1]})
		if (no == "false") == (n.Kind == api.Or) {
			return n.Kids[0]
		}
		if k := n.Kids[1].Kind; k != api.Name && k != api.Member {
			return n.Kids[1]
		}
	}
	return nil
}

// words is a program that is done by the words of 9.1; came and stayed tell how many values of each kind with known parts came to something, or didn't.
func words(t *testing.T, n *api.Node, came, stayed map[int]int) *api.Node {
	t.Helper()
	c := &api.Node{Kind: n.Kind, Text: n.Text, N: n.N}
	for _, k := range n.Kids {
		c.Kids = append(c.Kids, words(t, k, came, stayed))
	}
	v := comesTo(t, c)
	if v != nil && !(v.Kind == api.Str && v.Text == "use strict") {
		came[n.Kind]++
		return v
	}
	if n.Kind >= api.Or && n.Kind <= api.Typeof && isLiteral(c.Kids[0]) && (n.Kind <= api.And || isLiteral(c.Kids[len(c.Kids)-1])) {
		stayed[n.Kind]++
	}
	return c
}

// literals are some of each kind, with those at the bounds.
func literals() []string {
	long := "'" + strings.Repeat("x", api.MaxString-4) + "'"
	return []string{"0", "1", "2", "7", "31623", "500000000", "999999999", "1000000000", "''", "'a'", "'ab'", "'b'", "'0'", "'1'", "'true'", "'null'", "'undefined'", "'use '", "'strict'", "'use strict'", "'\\n'", "'\xff'", long, "true", "false", "null", "undefined"}
}

// Each sign, of each pair of literals, is what run tells; Not and Typeof, too.
func TestAllPairs(t *testing.T) {
	came, stayed := map[int]int{}, map[int]int{}
	want := func(text string) {
		t.Helper()
		n := parse(t, "a = "+text+";")
		if w, c := words(t, n, came, stayed), fold.Fold(n); !plain.Same(c, w) {
			t.Errorf("%.100s: %.100s, want %.100s", text, tree.Text(c), tree.Text(w))
		}
	}
	for _, a := range literals() {
		want("!" + a)
		want("typeof " + a)
		for _, b := range literals() {
			for _, sign := range []string{"===", "<", "+", "-", "*", "||", "&&"} {
				want(a + " " + sign + " " + b)
			}
		}
	}
	for _, kind := range []int{api.Less, api.Add, api.Sub, api.Mul, api.Or, api.And} {
		if came[kind] < 20 || stayed[kind] < 3 {
			t.Errorf("kind %d: %d came to something, %d stayed", kind, came[kind], stayed[kind])
		}
	}
}

// maker draws programs in which much is known ahead.
type maker struct{ *rand.Rand }

func (m maker) pick(l ...string) string { return l[m.Intn(len(l))] }

func (m maker) name() string { return m.pick("a", "b", "f", "o", "z") }

func (m maker) literal() string {
	return m.pick("0", "1", "2", "3", "1000000000", "''", "'a'", "'b'", "'use '", "'strict'", "'use strict'", "true", "false", "null", "undefined")
}

func (m maker) value(deep int) string {
	if deep == 0 || m.Intn(6) == 0 {
		return m.pick(m.literal(), m.literal(), m.literal(), m.literal(), m.literal(), m.name(), m.name()+"."+m.name())
	}
	v := func() string { return m.value(deep - 1) }
	switch m.Intn(20) {
	case 0, 1, 2:
		return m.pick("!", "typeof ", "delete ") + "(" + v() + ")"
	case 3:
		return "(" + m.name() + m.pick("", "."+m.name()) + " = " + v() + ")"
	case 4:
		return "(" + v() + ")." + m.name()
	case 5:
		return m.pick("(", "f(", "print(", "("+v()+")(") + v() + ")"
	case 6:
		return "(function " + m.pick("", m.name()) + "(a) {" + m.pick("", "'use strict'; ", v()+"; ") + "return " + v() + ";})(" + v() + ")"
	case 7:
		return "({" + m.name() + ": " + v() + "})"
	case 8:
		return m.pick("eval", "(0 || eval)", "(1 && eval)") + "(" + m.pick("'var "+m.name()+" = 1 + 2;'", "'1 * 2;'", "'delete ' + '"+m.name()+";'", v()) + ")"
	}
	return "(" + v() + m.pick(" + ", " - ", " * ", " < ", " === ", " || ", " && ", " || ", " && ") + v() + ")"
}

func (m maker) statement(deep int) string {
	v := func() string { return m.value(1 + m.Intn(4)) }
	s := func() string { return m.statement(deep - 1) }
	if deep == 0 {
		return "print(" + v() + ");"
	}
	switch m.Intn(11) {
	case 0:
		return "var " + m.name() + " = " + v() + ";"
	case 1:
		return "{" + m.pick("let ", "const ") + m.name() + " = " + v() + "; " + s() + "}"
	case 2:
		return "if (" + v() + ") {" + s() + "} else " + m.pick("{"+s()+"}", ";")
	case 3:
		return "while (" + v() + " && (n = n + 1) < 5) {" + s() + "}"
	case 4:
		return "with (" + m.pick("o", v()) + ") {" + s() + "}"
	case 5:
		return "{function g(a) {" + m.pick("", "'use strict'; ", "'use ' + 'strict'; ") + s() + " return " + v() + ";} print(g(" + v() + "));}"
	case 6:
		return "throw " + v() + ";"
	case 7, 8:
		return "try {" + s() + "} catch (e) {print(e, " + v() + ");}" + m.pick("", " finally {"+s()+"}")
	}
	return m.pick("", "", "print") + "(" + v() + ");"
}

// some declares what the names stand for, so that programs come further before something is thrown.
const some = "var n = 0; var a = 1; var b = 'b'; var f = function(a) {return a;}; var o = {a: 1, b: {a: 2}, f: print}; "

func (m maker) program() string {
	s := m.pick("", "", "", "'use strict'; ") + m.pick("", some, some, some)
	for range 1 + m.Intn(5) {
		one := m.statement(m.Intn(4))
		s += m.pick(one, "try {"+one+"} catch (e) {print(e);}", "try {"+one+"} catch (e) {print(e);}") + " "
	}
	return s
}

// eachMade goes through the programs of made texts.
func eachMade(t *testing.T, many int, look func(text string, n *api.Node)) {
	m := maker{rand.New(rand.NewSource(9))}
	for many > 0 && !t.Failed() {
		text := m.program()
		n, err := tree.Parse(text)
		if err != nil && api.Tell(err) != api.ErrLimit {
			t.Fatalf("%q: %v", text, err)
		}
		if err == nil {
			many--
			look(text, n)
		}
	}
}

// What comes of a program, and of each part of it, is what the words of the document say, with what run tells of its values.
func TestMadeByTheWords(t *testing.T) {
	came, stayed := map[int]int{}, map[int]int{}
	eachMade(t, 1500, func(text string, n *api.Node) {
		w := words(t, n, came, stayed)
		if c := fold.Fold(n); !plain.Same(c, w) {
			t.Errorf("%s\n\tcomes to %s\n\twant     %s", text, tree.Text(c), tree.Text(w))
		}
		for _, k := range nodes(n) {
			if m := fold.Fold(k); len(nodes(k)) < 20 && !plain.Same(m, words(t, k, came, stayed)) {
				t.Errorf("%s: a part of kind %d comes to something else", text, k.Kind)
			}
		}
	})
	for kind := api.Or; kind <= api.Typeof; kind++ {
		always := kind == api.Same || kind == api.Not || kind == api.Typeof // nothing is thrown by these
		if came[kind] < 100 || (stayed[kind] < 100) != always {
			t.Errorf("kind %d: %d came to something, %d stayed", kind, came[kind], stayed[kind])
		}
	}
}

// The program stays, nothing is shared, what is done once more changes nothing, and the text tells the answer.
func TestMadeAnswers(t *testing.T) {
	changed := 0
	eachMade(t, 1500, func(text string, n *api.Node) {
		c := fold.Fold(n)
		if !plain.Same(n, parse(t, text)) {
			t.Errorf("%s was changed", text)
		}
		if again := fold.Fold(c); !plain.Same(again, c) {
			t.Errorf("%s\n\tcomes to %s\n\tand then %s", text, tree.Text(c), tree.Text(again))
		}
		if again := fold.Fold(n); !plain.Same(again, c) {
			t.Errorf("%s comes to something else the second time", text)
		}
		if len(tree.Text(c)) < api.MaxSource && !plain.Same(parse(t, tree.Text(c)), c) {
			t.Errorf("%s is another program when it is read", tree.Text(c))
		}
		wantApart(t, n, c)
		if !plain.Same(n, c) {
			changed++
		}
	})
	if changed < 1000 {
		t.Errorf("only %d programs changed", changed)
	}
}

// sights are the names that were seen, in order, each with the kind of the node in whose scope it was found (below 0: an owner that is no node).
func sights(n *api.Node, r run.Result) (l []string) {
	all := nodes(n)
	for _, s := range r.Seen {
		owner := s[1]
		if owner >= 0 {
			owner = all[owner].Kind
		}
		l = append(l, all[s[0]].Text+" "+strconv.Itoa(owner))
	}
	return l
}

// What is done ahead is done: the program prints the same, ends the same, and takes no more steps.
func TestMadeSameRun(t *testing.T) {
	fewer := 0
	ends := map[int]int{}
	eachMade(t, 4000, func(text string, n *api.Node) {
		if early.Check(n, false, false) != nil {
			return
		}
		c := fold.Fold(n)
		want, _ := run.Run(n)
		got, err := run.Run(c)
		if err != nil || got.Steps > want.Steps {
			t.Fatalf("%s\n\ttakes %d steps, was %d, %v", tree.Text(c), got.Steps, want.Steps, err)
		}
		ends[want.Code]++
		if want.Code == run.Stopped { // with fewer steps for the same it may come further
			return
		}
		if got.Code != want.Code || got.Value != want.Value || !slices.Equal(got.Log, want.Log) {
			t.Fatalf("%s\n\tdoes %v\n%s\n\tdoes %v", text, want, tree.Text(c), got)
		}
		if !slices.Equal(sights(c, got), sights(n, want)) {
			t.Fatalf("%s\n\tsees %q\n%s\n\tsees %q", text, sights(n, want), tree.Text(c), sights(c, got))
		}
		if got.Steps < want.Steps {
			fewer++
		}
	})
	if fewer < 1000 || ends[run.Done] < 500 || ends[run.Thrown] < 500 {
		t.Errorf("%d took fewer steps; ends %v", fewer, ends)
	}
}
