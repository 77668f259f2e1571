package alpha_test

import (
	"slices"
	"strings"
	"testing"

	"sloppyscope/alpha"
	"sloppyscope/api"
	"sloppyscope/plain"
	"sloppyscope/tree"
)

// What the tests of promises 8.1 and 8.2 share, and Copy.

// parse is the program of a text that has no fault.
func parse(t *testing.T, text string) *api.Node {
	t.Helper()
	n, err := tree.Parse(text)
	if err != nil || n == nil {
		e, at := plain.Place(err)
		t.Fatalf("%.300q: error %d at %d", text, e, at)
	}
	return n
}

// nodes are all nodes of a program, by their numbers.
func nodes(n *api.Node) (l []*api.Node) {
	tree.Walk(n, func(k *api.Node) bool {
		l = append(l, k)
		return true
	})
	return l
}

// number is that of a node of a kind: the nth one, from 0 on, from the left.
func number(t *testing.T, n *api.Node, kind, nth int) int {
	t.Helper()
	for at, k := range nodes(n) {
		if k.Kind == kind {
			if nth == 0 {
				return at
			}
			nth--
		}
	}
	t.Fatalf("%s has too few nodes of kind %d", tree.Text(n), kind)
	return -1
}

// part is the nth node of a kind in the program of a text.
func part(t *testing.T, text string, kind, nth int) *api.Node {
	t.Helper()
	n := parse(t, text)
	return nodes(n)[number(t, n, kind, nth)]
}

func isFunction(n *api.Node) bool { return n.Kind == api.Func || n.Kind == api.Lambda }

// each is a program with all kinds of nodes.
const each = "'use strict'; var a = 1; let b; const c = 's'; function f(a, b) {return a.b; return;} {;} if (!a) throw typeof b; else delete c; while (a < b) with (f) x = {p: true, q: null}; try {a(b, undefined);} catch (e) {e === false;} finally {(function g() {a + b - c * e || f && g;});}"

func TestEachKind(t *testing.T) {
	l := nodes(parse(t, each))
	for kind := api.Program; kind <= api.Params; kind++ {
		if !slices.ContainsFunc(l, func(k *api.Node) bool { return k.Kind == kind }) {
			t.Errorf("no node of kind %d is asked by the tests", kind)
		}
	}
}

// wantApart wants no node, and no list of nodes, to be in both programs.
func wantApart(t *testing.T, n, c *api.Node) {
	t.Helper()
	seen := map[*api.Node]bool{}
	lists := map[**api.Node]bool{}
	for _, k := range nodes(n) {
		seen[k] = true
		if cap(k.Kids) > 0 {
			lists[&k.Kids[:1][0]] = true
		}
	}
	for _, k := range nodes(c) {
		if seen[k] {
			t.Errorf("a node of kind %d, %q, is shared", k.Kind, k.Text)
		}
		if cap(k.Kids) > 0 && lists[&k.Kids[:1][0]] {
			t.Errorf("the Kids of a node of kind %d, %q, are shared", k.Kind, k.Text)
		}
		// No two lists of one answer share memory, either.
		seen[k] = true
		if cap(k.Kids) > 0 {
			lists[&k.Kids[:1][0]] = true
		}
	}
}

func TestCopyNothing(t *testing.T) {
	if c := alpha.Copy(nil); c != nil {
		t.Errorf("of no program: %v", c)
	}
}

func TestCopy(t *testing.T) {
	for _, text := range []string{
		"", ";", "a;", "1000000000; 0;", "'a\\n\\'\\\\';", "{}", "{{}}", "let a; const b = 1;",
		"'use strict'; a;", "function f() {'use strict';}", "function f(a, b, a) {return;}",
		"(function() {}); (function f() {});", "f(1, 2, 3); o.p = {a: 1, b: {}};",
		"try {} catch (e) {}", "try {} finally {}", "if (a) b; else c;", each,
	} {
		n := parse(t, text)
		c := alpha.Copy(n)
		if !plain.Same(c, n) || tree.Text(c) != tree.Text(n) || tree.Strict(c) != tree.Strict(n) {
			t.Errorf("%s: the copy is %s", text, tree.Text(c))
		}
		wantApart(t, n, c)
		if !plain.Same(n, parse(t, text)) {
			t.Errorf("%s was changed", text)
		}
	}
}

// Each part can be copied alone.
func TestCopyParts(t *testing.T) {
	for _, k := range nodes(parse(t, each)) {
		c := alpha.Copy(k)
		if !plain.Same(c, k) {
			t.Errorf("kind %d, %q: the copy is another one", k.Kind, k.Text)
		}
		wantApart(t, k, c)
	}
}

// What is done to a copy is not done to the program, and the other way round.
func TestCopyApart(t *testing.T) {
	spoil := func(n *api.Node) {
		for _, k := range nodes(n) {
			k.Kind, k.Text, k.N = api.Empty, "spoilt", -7
			for i := range k.Kids {
				k.Kids[i] = nil
			}
			k.Kids = append(k.Kids[:0], n)
		}
	}
	n := parse(t, each)
	spoil(alpha.Copy(n))
	if !plain.Same(n, parse(t, each)) {
		t.Error("the program hangs on its copy")
	}
	c := alpha.Copy(n)
	spoil(n)
	if !plain.Same(c, parse(t, each)) {
		t.Error("the copy hangs on its program")
	}
}

// behind gives each list of a program room behind its length, in which something stands; asked later, it says whether that still does.
func behind(n *api.Node) (stays func() bool) {
	mark := &api.Node{Kind: api.Name, Text: "mark"}
	l := nodes(n)
	for _, k := range l {
		many := len(k.Kids)
		k.Kids = append(slices.Clip(k.Kids), mark, mark, mark)[:many]
	}
	return func() bool {
		for _, k := range l {
			for _, m := range k.Kids[len(k.Kids) : len(k.Kids)+3] {
				if m != mark || m.Text != "mark" || len(m.Kids) != 0 {
					return false
				}
			}
		}
		return true
	}
}

// P4: what is handed in is not written into, nor what stands behind a list's length.
func TestBehind(t *testing.T) {
	const text = "let a; function f(a, b) {var c; let d; function g() {} {let e; a;} a; b; c; d; g;} try {} catch (e) {e;}"
	n := parse(t, text)
	stays := behind(n)
	alpha.Copy(n)
	for at, k := range nodes(n) {
		names, _ := alpha.Owns(n, at)
		for _, name := range names {
			if _, err := alpha.Rename(n, at, name, "z"); err != nil {
				t.Errorf("kind %d, %s: %v", k.Kind, name, err)
			}
		}
	}
	if !stays() {
		t.Error("what stands behind a list's length was changed")
	}
	if !plain.Same(n, parse(t, text)) {
		t.Error("the program was changed")
	}
}

// Programs at their bounds.
func TestGreat(t *testing.T) {
	many := "{let a; " + strings.Repeat("a;", 700) + "}"
	n := parse(t, many)
	c, err := alpha.Rename(n, 1, "a", "abcdefghijklmnopqrst")
	if err != nil || tree.Text(c) != "{let abcdefghijklmnopqrst;"+strings.Repeat(" abcdefghijklmnopqrst;", 700)+"}\n" {
		t.Errorf("%v: %s", err, tree.Text(c))
	}
	const levels = api.MaxDeep - 2
	deep := strings.Repeat("{let a;", levels) + "a;" + strings.Repeat("}", levels)
	n = parse(t, deep)
	for nth := range levels {
		c, err := alpha.Rename(n, number(t, n, api.Block, nth), "a", "b")
		want := strings.Repeat("{let a;", nth) + "{let b;" + strings.Repeat("{let a;", levels-nth-1) + "a;" + strings.Repeat("}", levels)
		if nth == levels-1 {
			want = strings.Replace(want, "a;}", "b;}", 1)
		}
		if err != nil || !plain.Same(c, parse(t, want)) {
			t.Errorf("level %d: %v: %s", nth, err, tree.Text(c))
		}
	}
}
