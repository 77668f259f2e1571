package hoist_test

import (
	"slices"
	"strings"
	"testing"

	"sloppyscope/api"
	"sloppyscope/hoist"
	"sloppyscope/plain"
	"sloppyscope/tree"
)

// parse is the program of a text that has no fault.
func parse(t *testing.T, text string) *api.Node {
	t.Helper()
	n, err := tree.Parse(text)
	if err != nil || n == nil {
		e, at := plain.Place(err)
		t.Fatalf("%.200q: error %d at %d", text, e, at)
	}
	return n
}

// first is the first node of a kind, from the left, in the program of a text.
func first(t *testing.T, text string, kind int) *api.Node {
	t.Helper()
	var found *api.Node
	tree.Walk(parse(t, text), func(n *api.Node) bool {
		if found == nil && n.Kind == kind {
			found = n
		}
		return true
	})
	if found == nil {
		t.Fatalf("%q has no node of kind %d", text, kind)
	}
	return found
}

// bodyOf is the block of the first function of a text.
func bodyOf(t *testing.T, text string) *api.Node {
	t.Helper()
	return first(t, text, api.Func).Kids[1]
}

// wantNames: these names, with blanks between, in that order.
func wantNames(t *testing.T, what string, got []string, want string) {
	t.Helper()
	if !slices.Equal(got, strings.Fields(want)) {
		t.Errorf("%.300s: got %q, want %q", what, got, strings.Fields(want))
	}
}

// wantKids: a list of these nodes of n, by their numbers among its Kids.
func wantKids(t *testing.T, what string, n *api.Node, got []*api.Node, want ...int) {
	t.Helper()
	var l []int
	for _, k := range got {
		l = append(l, slices.Index(n.Kids, k))
	}
	if !slices.Equal(l, want) {
		t.Errorf("%s: got Kids %v, want %v", what, l, want)
	}
}

// Promise 3.1.

func TestNil(t *testing.T) {
	if l := hoist.Vars(nil); len(l) != 0 {
		t.Errorf("Vars %q", l)
	}
	if l := hoist.Funcs(nil); len(l) != 0 {
		t.Errorf("Funcs %v", l)
	}
	if l := hoist.Lets(nil); len(l) != 0 {
		t.Errorf("Lets %v", l)
	}
	for _, body := range []bool{false, true} {
		if l := hoist.Names(nil, body); len(l) != 0 {
			t.Errorf("Names %v %q", body, l)
		}
	}
	if l := hoist.Free(nil); len(l) != 0 {
		t.Errorf("Free %q", l)
	}
}

// A text that is no program has a nil one, which declares and uses nothing.
func TestNoProgram(t *testing.T) {
	for _, text := range []string{"var a", "var a; }", "let a; 1 = b;", "a", "var a; #", "const a;", "function () {}", strings.Repeat("var a;", 501)} {
		n, err := tree.Parse(text)
		if err == nil {
			t.Errorf("%.100q is a program", text)
		}
		wantNames(t, text, hoist.Vars(n), "")
		wantNames(t, text, hoist.Names(n, true), "")
		wantNames(t, text, hoist.Free(n), "")
		if len(hoist.Funcs(n)) != 0 || len(hoist.Lets(n)) != 0 {
			t.Errorf("%.100q has Funcs or Lets", text)
		}
	}
}

func TestVars(t *testing.T) {
	for _, c := range [][2]string{
		{"", ""},
		{"a = 1; ;", ""},
		{"var a;", "a"},
		{"var a = 1;", "a"},
		{"var b; var a;", "b a"},
		{"let a; const b = 1; function c() {}", ""},
		{"var a = b = c;", "a"},
		// Deep within.
		{"{var a;}", "a"},
		{"{{var a;} var b;} var c;", "a b c"},
		{"if (x) var a;", "a"},
		{"if (x) var a; else var b;", "a b"},
		{"if (x) ; else {var b;}", "b"},
		{"if (x) {var a;} else if (y) var b; else {{var c;}}", "a b c"},
		{"while (x) var a;", "a"},
		{"with (x) var a;", "a"},
		{"with (x) {while (y) {var a;}}", "a"},
		{"try {var a;} catch (e) {var b;} finally {var c;}", "a b c"},
		{"try {} catch (e) {var e;}", "e"},
		{"try {} catch (e) {}", ""},
		{"if (x) while (y) with (z) try {} catch (e) {} finally {if (v) ; else var a;}", "a"},
		{strings.Repeat("{", 29) + "var a;" + strings.Repeat("}", 29), "a"},
		// Not in functions.
		{"function f(p) {var a;}", ""},
		{"function f() {{var a;}} var b;", "b"},
		{"x = function() {var a;};", ""},
		{"var a = function b(c) {var d;};", "a"},
		{"(function() {var a;})();", ""},
		{"if (function() {var a;}) {var b;}", "b"},
		{"{function f() {var a;} var b;}", "b"},
		{"if (x) function f() {var a;}", ""},
		{"x = {p: function() {var a;}}; f(!function() {var b;});", ""},
		{"return function() {var a;};", ""},
		{"throw function() {var a;}; var b;", "b"},
		// Each once, where it stands first.
		{"var a; var a;", "a"},
		{"var b; var a; var b; var c; var a;", "b a c"},
		{"{var b;} var a; if (x) var b; else var c;", "b a c"},
		{"try {var c;} catch (e) {var b;} finally {var c; var a;} var b;", "c b a"},
		{"var abc; var ab; var abcd;", "abc ab abcd"},
		// What eval says is no node.
		{"eval('var a;');", ""},
	} {
		wantNames(t, c[0], hoist.Vars(parse(t, c[0])), c[1])
	}
}

// Vars of parts: what is within them counts, not what they are.
func TestVarsOfParts(t *testing.T) {
	const f = "function f(p) {var a; {var b;} function g() {var c;} x = function() {var d;};} var e;"
	wantNames(t, "a function's block", hoist.Vars(bodyOf(t, f)), "a b")
	wantNames(t, "a function", hoist.Vars(first(t, f, api.Func)), "a b")
	const l = "x = function f(p) {if (p) var a; y = function() {var b;};};"
	wantNames(t, "a lambda", hoist.Vars(first(t, l, api.Lambda)), "a")
	wantNames(t, "a var", hoist.Vars(first(t, "var a = function() {var b;};", api.Var)), "")
	wantNames(t, "an if", hoist.Vars(first(t, "if (x) var a; else {var b;} var c;", api.If)), "a b")
	wantNames(t, "a catch", hoist.Vars(first(t, "try {var a;} catch (e) {var b;} finally {var c;}", api.Catch)), "b")
	wantNames(t, "a block", hoist.Vars(first(t, "{var a;} var b;", api.Block)), "a")
	wantNames(t, "a call", hoist.Vars(first(t, "f(function() {var a;});", api.Call)), "")
	wantNames(t, "a name", hoist.Vars(first(t, "a;", api.Name)), "")
}

func TestFuncsAndLets(t *testing.T) {
	for _, c := range []struct {
		text        string
		funcs, lets []int
	}{
		{"", nil, nil},
		{"var a; a; ;", nil, nil},
		{"function f() {}", []int{0}, nil},
		{"let a;", nil, []int{0}},
		{"const a = 1;", nil, []int{0}},
		{"let a; function f() {} const b = 1; var c; function g() {} let d = 2; d;", []int{1, 4}, []int{0, 2, 5}},
		// As often as they stand there.
		{"function f() {} function f() {} let a; let a; const a = 1;", []int{0, 1}, []int{2, 3, 4}},
		// Not what is within the Kids.
		{"{function f() {} let a; const b = 1;}", nil, nil},
		{"if (x) function f() {}", nil, nil},
		{"if (x) let a; else let b;", nil, nil},
		{"while (x) let a; with (x) const b = 1;", nil, nil},
		{"try {let a; function f() {}} catch (e) {let b;} finally {let c;}", nil, nil},
		{"function f() {function g() {} let a;}", []int{0}, nil},
		// A Lambda is no Func.
		{"(function f() {});", nil, nil},
		{"x = function f() {let a;}; var y = function() {};", nil, nil},
		{"let x = function f() {let a;};", nil, []int{0}},
	} {
		n := parse(t, c.text)
		wantKids(t, "Funcs of "+c.text, n, hoist.Funcs(n), c.funcs...)
		wantKids(t, "Lets of "+c.text, n, hoist.Lets(n), c.lets...)
	}
}

func TestFuncsAndLetsOfParts(t *testing.T) {
	n := bodyOf(t, "function f() {let a; function g() {} {let b;}}")
	wantKids(t, "Funcs of a function's block", n, hoist.Funcs(n), 1)
	wantKids(t, "Lets of a function's block", n, hoist.Lets(n), 0)
	n = first(t, "function f() {} {let a; function g() {} const b = 1;}", api.Func)
	wantKids(t, "Funcs of a function", n, hoist.Funcs(n))
	wantKids(t, "Lets of a function", n, hoist.Lets(n))
	n = first(t, "{let a; function g() {} const b = 1;}", api.Block)
	wantKids(t, "Funcs of a block", n, hoist.Funcs(n), 1)
	wantKids(t, "Lets of a block", n, hoist.Lets(n), 0, 2)
	n = first(t, "if (x) let a; else function f() {}", api.If)
	wantKids(t, "Funcs of an if", n, hoist.Funcs(n), 2)
	wantKids(t, "Lets of an if", n, hoist.Lets(n), 1)
	n = first(t, "f(function g() {});", api.Call)
	wantKids(t, "Funcs of a call", n, hoist.Funcs(n))
}

func TestNames(t *testing.T) {
	for _, c := range []struct{ text, body, block string }{
		{"", "", ""},
		{"a = b;", "", ""},
		{"function f() {} if (a) var b; let c;", "b f c", "f c"},
		{"var a;", "a", ""},
		{"function f() {}", "f", "f"},
		{"let a;", "a", "a"},
		{"const a = 1;", "a", "a"},
		// Vars, then Funcs, then Lets, each of these in order.
		{"let a; function b() {} var c;", "c b a", "b a"},
		{"const z = 1; let y; function x() {} function w() {} var v; {var u;}", "v u x w z y", "x w z y"},
		// Each once, where it stands first.
		{"var a; function a() {} let a;", "a", "a"},
		{"let a; function b() {} var a; var b;", "a b", "b a"},
		{"let a; let b; let a; const b = 1;", "a b", "a b"},
		{"function b() {} function a() {} function b() {}", "b a", "b a"},
		{"let c; let b; function b() {} function a() {} var a; var d;", "a d b c", "b a c"},
		// Not of what is within, but vars.
		{"{let a; function f() {} var b;}", "b", ""},
		{"if (x) let a; else function f() {}", "", ""},
		{"function f(p) {var a; let b; function g() {}}", "f", "f"},
		{"x = function f(p) {var a; let b;};", "", ""},
		{"try {var a; let b;} catch (e) {var c;} finally {let d; var f;}", "a c f", ""},
	} {
		n := parse(t, c.text)
		wantNames(t, "body: "+c.text, hoist.Names(n, true), c.body)
		wantNames(t, "no body: "+c.text, hoist.Names(n, false), c.block)
		// A function's block and another one tell the same of the same statements.
		b := bodyOf(t, "function outer() {"+c.text+"}")
		wantNames(t, "body of a function: "+c.text, hoist.Names(b, true), c.body)
		wantNames(t, "no body of a function: "+c.text, hoist.Names(b, false), c.block)
		b = first(t, "{"+c.text+"}", api.Block)
		wantNames(t, "body of a block: "+c.text, hoist.Names(b, true), c.body)
		wantNames(t, "no body of a block: "+c.text, hoist.Names(b, false), c.block)
	}
}

// P4: what comes out is the caller's, and what went in stays as it is.
func TestFreshMemory(t *testing.T) {
	const text = "function f() {} function g() {} let a; const b = 1; var c; d = e; var h;"
	n, same := parse(t, text), parse(t, text)
	funcs, lets := hoist.Funcs(n), hoist.Lets(n)
	lists := [][]string{hoist.Vars(n), hoist.Names(n, true), hoist.Names(n, false), hoist.Free(n)}
	for i := range lists {
		_ = append(lists[i][:0], "x", "y")
	}
	funcs[0], lets[0] = nil, nil
	_, _ = append(funcs, nil), append(lets, nil)
	if !plain.Same(n, same) {
		t.Error("the program was written into")
	}
	wantNames(t, "Vars", hoist.Vars(n), "c h")
	wantNames(t, "Names, body", hoist.Names(n, true), "c h f g a b")
	wantNames(t, "Names, no body", hoist.Names(n, false), "f g a b")
	wantNames(t, "Free", hoist.Free(n), "d e")
	wantKids(t, "Funcs", n, hoist.Funcs(n), 0, 1)
	wantKids(t, "Lets", n, hoist.Lets(n), 2, 3)
}

// A node's Kids alone are told of, not what stands behind that list's length.
func TestBehindTheList(t *testing.T) {
	n := parse(t, "var a; function f() {} let b; x; y;")
	n.Kids = n.Kids[:0]
	wantNames(t, "Vars", hoist.Vars(n), "")
	wantNames(t, "Names", hoist.Names(n, true), "")
	wantNames(t, "Free", hoist.Free(n), "")
	wantKids(t, "Funcs", n, hoist.Funcs(n))
	wantKids(t, "Lets", n, hoist.Lets(n))
	if again := n.Kids[:5]; !plain.Same(parse(t, "var a; function f() {} let b; x; y;"), &api.Node{Kind: api.Program, Kids: again}) {
		t.Error("what stands behind the list was written into")
	}
}
