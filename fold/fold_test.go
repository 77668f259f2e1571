package fold_test

import (
	"slices"
	"strings"
	"testing"

	"sloppyscope/alpha"
	"sloppyscope/api"
	"sloppyscope/fold"
	"sloppyscope/plain"
	"sloppyscope/tree"
)

// What the tests of promise 9.1 share; and what is true of every answer (P1, P2, P4).

// parse is the program of a text that has no fault.
func parse(t *testing.T, text string) *api.Node {
	t.Helper()
	n, err := tree.Parse(text)
	if err != nil || n == nil {
		e, at := plain.Place(err)
		t.Fatalf("%.300q: error %d at %d", text, e, at)
	}
	return n
}

// nodes are all nodes of a program, by their numbers.
func nodes(n *api.Node) (l []*api.Node) {
	tree.Walk(n, func(k *api.Node) bool {
		l = append(l, k)
		return true
	})
	return l
}

// wantFold wants a program to come to another one, which is then all that is known of it.
func wantFold(t *testing.T, text, want string) {
	t.Helper()
	n, w := parse(t, text), parse(t, want)
	c := fold.Fold(n)
	if !plain.Same(c, w) {
		t.Errorf("%.300s\n\tcomes to %.300s\n\twant     %.300s", text, tree.Text(c), tree.Text(w))
	}
	if again := fold.Fold(c); !plain.Same(again, w) {
		t.Errorf("%.300s\n\tcomes to %.300s, done once more", text, tree.Text(again))
	}
	if !plain.Same(n, parse(t, text)) {
		t.Errorf("%.300s was changed: %.300s", text, tree.Text(n))
	}
	wantApart(t, n, c)
}

// wantStay wants programs in which nothing changes.
func wantStay(t *testing.T, texts ...string) {
	t.Helper()
	for _, text := range texts {
		wantFold(t, text, text)
	}
}

// wantApart wants no node, and no list of nodes, to be in both programs, nor twice in the second one.
func wantApart(t *testing.T, n, c *api.Node) {
	t.Helper()
	seen := map[*api.Node]bool{}
	lists := map[**api.Node]bool{}
	keep := func(k *api.Node) {
		seen[k] = true
		if cap(k.Kids) > 0 {
			lists[&k.Kids[:1][0]] = true
		}
	}
	for _, k := range nodes(n) {
		keep(k)
	}
	for _, k := range nodes(c) {
		if seen[k] {
			t.Errorf("a node of kind %d, %q, is shared", k.Kind, k.Text)
		}
		if cap(k.Kids) > 0 && lists[&k.Kids[:1][0]] {
			t.Errorf("the Kids of a node of kind %d, %q, are shared", k.Kind, k.Text)
		}
		keep(k)
	}
}

// each is a program with all kinds of nodes, in which nothing is known ahead.
const each = "'use strict'; var a = 1; let b; const c = 's'; function f(a, b) {return a.b; return;} {;} if (!a) throw typeof b; else delete c; while (a < b) with (f) x = {p: true, q: null}; try {a(b, undefined);} catch (e) {e === false;} finally {(function g() {a + b - c * e || f && g;});}"

// known is a program in which something is known ahead wherever a value can stand.
const known = "var a = 1 + 2; let b = 'a' + 1; const c = !0; function f(a) {'use strict'; return 2 * 3;} {1 < 2;} if (0 || 1) ; else 1 === 1; while (1 && 0) throw typeof 1; with (1 && {p: 1 - 1}) a = 5 - 3; try {f(1 + 1, 2 + 2).p = 3 + 3;} catch (e) {delete (4 + 4);} finally {(function() {return !!a && !!1;});} (2 < 1).p; f(a)(1 && b());"

const knownAhead = "var a = 3; let b = 'a1'; const c = true; function f(a) {'use strict'; return 6;} {true;} if (1) ; else true; while (0) throw 'number'; with ({p: 0}) a = 2; try {f(2, 4).p = 6;} catch (e) {delete 8;} finally {(function() {return !!a && true;});} false.p; f(a)(b());"

func TestEachKind(t *testing.T) {
	l := nodes(parse(t, each))
	for kind := api.Program; kind <= api.Params; kind++ {
		if !slices.ContainsFunc(l, func(k *api.Node) bool { return k.Kind == kind }) {
			t.Errorf("no node of kind %d is asked by the tests", kind)
		}
	}
}

func TestNothing(t *testing.T) {
	if c := fold.Fold(nil); c != nil {
		t.Errorf("of no program: %v", c)
	}
	wantStay(t, "", ";", "{}", "a;")
}

func TestEverywhere(t *testing.T) {
	wantStay(t, each)
	wantFold(t, known, knownAhead)
}

// What is written is the program that came out.
func TestText(t *testing.T) {
	for _, c := range [][2]string{
		{"print(1 + 2 * 3);", "print(7);\n"},
		{"1 && {a: 1 + 1};", "({a: 2});\n"},
		{"0 || function() {};", "(function() {});\n"},
		{"(0 || (a = 1)) + 1 * 1;", "(a = 1) + 1;\n"},
		{"a * (1 && b + 2);", "a * (b + 2);\n"},
		{"'it\\'s' + '\\n' + '\\\\';", "'it\\'s\\n\\\\';\n"},
		{"(1 + 2).a;", "3.a;\n"},
	} {
		if got := tree.Text(fold.Fold(parse(t, c[0]))); got != c[1] {
			t.Errorf("%s: %q, want %q", c[0], got, c[1])
		}
	}
}

// Strict code is strict code still, and nothing else becomes it.
func TestStrict(t *testing.T) {
	for _, text := range []string{
		"'use strict'; 1 + 2;", "('use strict'); 1 + 2;", "1 + 2; 'use strict';", "'use ' + 'strict'; 1 + 2;", "0 || 'use strict';", "function f() {'use strict'; 1 + 2;}", "function f() {'use ' + 'strict'; 1 + 2;}", "(function() {'use strict'; 1 + 2;});",
	} {
		n := parse(t, text)
		c := fold.Fold(n)
		strict := func(l []*api.Node) int { return slices.IndexFunc(l, tree.Strict) }
		if strict(nodes(c)) != strict(nodes(n)) {
			t.Errorf("%s: strict code is elsewhere in %s", text, tree.Text(c))
		}
		if !plain.Same(parse(t, tree.Text(c)), c) {
			t.Errorf("%s is another program when it is read", tree.Text(c))
		}
	}
}

// part is the first node of a kind in the program of a text.
func part(t *testing.T, text string, kind int) *api.Node {
	t.Helper()
	l := nodes(parse(t, text))
	i := slices.IndexFunc(l, func(k *api.Node) bool { return k.Kind == kind })
	if i < 0 {
		t.Fatalf("%s has no node of kind %d", text, kind)
	}
	return l[i]
}

// A part of a program is done as it is in the program.
func TestParts(t *testing.T) {
	for _, c := range []struct {
		text string
		kind int
		want string
		as   int
	}{
		{"a = 1 + 2;", api.Add, "3;", api.Num},
		{"a = 1 - 2;", api.Sub, "1 - 2;", api.Sub},
		{"!'';", api.Not, "true;", api.True},
		{"0 || a;", api.Or, "0 || a;", api.Or},
		{"0 || a();", api.Or, "a();", api.Call},
		{"1 + 2;", api.Expr, "3;", api.Expr},
		{"var a = 1 + 2;", api.Var, "var a = 3;", api.Var},
		{"({a: 1 + 2});", api.Prop, "({a: 3});", api.Prop},
		{"function f(a, b) {1 + 2;}", api.Params, "function f(a, b) {}", api.Params},
		{"function f(a, b) {1 + 2;}", api.Block, "{3;}", api.Block},
		{"try {} catch (e) {1 + 2;}", api.Catch, "try {} catch (e) {3;}", api.Catch},
		{"try {} finally {1 + 2;}", api.Finally, "try {} finally {3;}", api.Finally},
		{"a.b;", api.Member, "a.b;", api.Member},
	} {
		n := part(t, c.text, c.kind)
		if got := fold.Fold(n); !plain.Same(got, part(t, c.want, c.as)) {
			t.Errorf("kind %d of %s: kind %d, %q, %d", c.kind, c.text, got.Kind, got.Text, got.N)
		}
	}
	for _, k := range nodes(parse(t, each)) {
		c := fold.Fold(k)
		if !plain.Same(c, k) {
			t.Errorf("kind %d, %q: something changed", k.Kind, k.Text)
		}
		wantApart(t, k, c)
	}
}

// Programs that the other layers made are done like those that were read.
func TestOthers(t *testing.T) {
	n := parse(t, known)
	want := parse(t, knownAhead)
	if !plain.Same(fold.Fold(alpha.Copy(n)), want) {
		t.Error("a copy comes to another program")
	}
	n = parse(t, "let a = 1 + 2; a || 1 - 1;")
	c, err := alpha.Rename(n, 0, "a", "b")
	if err != nil {
		t.Fatal(err)
	}
	if got := tree.Text(fold.Fold(c)); got != "let b = 3;\nb || 0;\n" {
		t.Errorf("with another name: %s", got)
	}
}

// spoil makes something else of each node.
func spoil(n *api.Node) {
	for _, k := range nodes(n) {
		k.Kind, k.Text, k.N = api.Empty, "spoilt", -7
		for i := range k.Kids {
			k.Kids[i] = nil
		}
		k.Kids = append(k.Kids[:0], n)
	}
}

// What is done to the answer is not done to the program, and the other way round; and no answer hangs on another one.
func TestApart(t *testing.T) {
	n := parse(t, known)
	spoil(fold.Fold(n))
	if !plain.Same(n, parse(t, known)) {
		t.Error("the program hangs on the answer")
	}
	c, other := fold.Fold(n), fold.Fold(n)
	spoil(n)
	spoil(other)
	if !plain.Same(c, parse(t, knownAhead)) {
		t.Error("the answer hangs on the program, or on another answer")
	}
}

// P4: nothing that stands behind a list's length is written into.
func TestBehind(t *testing.T) {
	n := parse(t, known)
	mark := &api.Node{Kind: api.Num, N: 1}
	l := nodes(n)
	for _, k := range l {
		k.Kids = append(slices.Clip(k.Kids), mark, mark)[:len(k.Kids)]
	}
	if c := fold.Fold(n); !plain.Same(c, parse(t, knownAhead)) {
		t.Errorf("comes to %s", tree.Text(c))
	}
	for _, k := range l {
		for _, m := range k.Kids[len(k.Kids) : len(k.Kids)+2] {
			if m != mark || !plain.Same(m, &api.Node{Kind: api.Num, N: 1}) {
				t.Fatalf("what stands behind the Kids of a node of kind %d was changed", k.Kind)
			}
		}
	}
}

// Programs at their bounds.
func TestGreat(t *testing.T) {
	wantFold(t, "a = 1"+strings.Repeat("+1", 740)+";", "a = 741;")
	wantFold(t, "a"+strings.Repeat("+1", 740)+";", "a"+strings.Repeat("+1", 740)+";")
	wantFold(t, strings.Repeat("1&&", 700)+"a();", "a();")
	wantFold(t, strings.Repeat("!", api.MaxDeep-2)+"1;", "true;")
	wantFold(t, "a = "+strings.Repeat("(1+", api.MaxDeep-3)+"1"+strings.Repeat(")", api.MaxDeep-3)+";", "a = 28;")
	wantFold(t, strings.Repeat("1+1;", 350), strings.Repeat("2;", 350))
}
