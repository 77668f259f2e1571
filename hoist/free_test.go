package hoist_test

import (
	"strings"
	"testing"

	"sloppyscope/api"
	"sloppyscope/hoist"
	"sloppyscope/tree"
)

// Promise 3.2.

func wantFree(t *testing.T, cases [][2]string) {
	t.Helper()
	for _, c := range cases {
		wantNames(t, c[0], hoist.Free(parse(t, c[0])), c[1])
	}
}

func TestFreeUses(t *testing.T) {
	wantFree(t, [][2]string{
		{"", ""},
		{";", ""},
		{"a;", "a"},
		{"a = 1;", "a"},
		{"a = b;", "a b"},
		{"a + b - c * d < e === f && g || h;", "a b c d e f g h"},
		{"!a; typeof b; delete c;", "a b c"},
		{"a.b.c = d.e;", "a d"},
		{"delete a.b;", "a"},
		{"a(b, c.d)(e);", "a b c e"},
		{"x = {a: b, c: {d: e}};", "b e x"},
		{"print(eval('a'));", "eval print"},
		{"var a = b; let c = d; const e = f;", "b d f"},
		{"if (a) b; else c; while (d) e; with (f) g;", "a b c d e f g"},
		{"return a; throw b;", "a b"},
		{"try {a;} catch (e) {b;} finally {c;}", "a b c"},
		{"'a'; 1; true; null; undefined;", ""},
		{"'use strict'; strict;", "strict"},
		{strings.Repeat("!", 28) + "a;", "a"},
		{strings.Repeat("(", 28) + "a" + strings.Repeat(")", 28) + ";", "a"},
		{"a" + strings.Repeat(".b", 1400) + ";", "a"},
		// Whatever with and eval may do.
		{"with ({a: 1}) a;", "a"},
		{"eval('var a;'); a;", "a eval"},
	})
}

func TestFreeOrder(t *testing.T) {
	wantFree(t, [][2]string{
		{"c; a; b;", "a b c"},
		{"b; a; b; a; b = a;", "a b"},
		{"function f() {b; a;} {a;} b;", "a b"},
		// By bytes: digits, then _, then letters, and the shorter one ahead of what goes on behind it.
		{"ab; a_; a1; a; b; _a; _; z; a10; a2; aa;", "_ _a a a1 a10 a2 a_ aa ab b z"},
	})
}

func TestFreeInPrograms(t *testing.T) {
	wantFree(t, [][2]string{
		{"var a; a;", ""},
		{"a; var a;", ""},
		{"let a; a;", ""},
		{"a; let a;", ""},
		{"const a = a; a;", ""},
		{"f(); function f() {}", ""},
		{"a; {var a;}", ""},
		{"a; if (x) while (y) var a;", "x y"},
		{"a; try {} catch (e) {} finally {var a;}", ""},
		{"function f() {a;} var a;", ""},
		{"x = function() {a;}; let a; {{a;}}", "x"},
		{"var arguments; arguments;", ""},
		// What is declared further in, or not by a program.
		{"{let a;} a;", "a"},
		{"{const a = 1;} a;", "a"},
		{"{function a() {}} a;", "a"},
		{"if (x) let a; a;", "a x"},
		{"while (x) const a = 1; a;", "a x"},
		{"if (x) function a() {} a;", "a x"},
		{"if (x) ; else function a() {a;}", "a x"},
		{"function f() {var a; let b; function c() {}} a; b; c;", "a b c"},
		{"x = function() {var a;}; a;", "a x"},
		{"arguments;", "arguments"},
	})
}

func TestFreeInBlocks(t *testing.T) {
	wantFree(t, [][2]string{
		{"{let a; a;}", ""},
		{"{a; const a = 1;}", ""},
		{"{a(); function a() {}}", ""},
		{"{a; {let a;}}", "a"},
		{"{let a; {a;}} a;", "a"},
		{"{let a;} {a;}", "a"},
		{"{let a; function f() {a;}}", ""},
		{"{let a; with (a) if (a) while (a) try {a;} catch (e) {a;} finally {a;}}", ""},
		{"if (a) {let a; a;}", "a"},
		{"while (x) {let x; x;}", "x"},
		{"with (a) {let a; let b; b;} b;", "a b"},
		{"try {let a; a;} catch (e) {a;} finally {let b; b;}", "a"},
		{"try {a;} catch (e) {let a; a;} finally {a;}", "a"},
		{"try {} finally {let a;} a;", "a"},
		// A var is declared by the program around.
		{"{var a;} a; {a;}", ""},
	})
}

func TestFreeInFunctions(t *testing.T) {
	wantFree(t, [][2]string{
		// Parameters are declared within, and are no uses.
		{"function f(a, b) {}", ""},
		{"function f(a, b) {a + b;}", ""},
		{"function f(a) {} a;", "a"},
		{"x = function(a) {a;};", "x"},
		{"(function(a) {}); a;", "a"},
		{"function f(a) {function g() {a;} x = function() {a;}; {a;}}", "x"},
		{"function f(a, a) {a;}", ""},
		{"function f(arguments) {arguments;} arguments;", "arguments"},
		// arguments is declared within each.
		{"function f() {arguments;}", ""},
		{"x = function() {arguments.length;};", "x"},
		{"function f() {{arguments;} if (x) arguments = 1;} arguments;", "arguments x"},
		{"function f() {} arguments;", "arguments"},
		// A function's own block declares its vars, too.
		{"function f() {a; {var a;} a;}", ""},
		{"function f() {a; let a;} function g() {a;}", "a"},
		{"function f() {a(); function a() {}} a;", "a"},
		{"function f() {if (x) var a; x = function() {a;};}", "x"},
		{"x = function() {a; if (a) var a;};", "x"},
		{"x = function() {function g() {var a;} a;};", "a x"},
		{"function f() {{let a; var b;} a; b;}", "a"},
		{"function f() {'use strict'; {var a;} a; strict;}", "strict"},
		// A Func's name is declared around it.
		{"function f() {f();}", ""},
		{"{function f() {f();}} f;", "f"},
		{"if (x) function f() {f();}", "f x"},
		// A Lambda's own one within it alone.
		{"(function f() {f();});", ""},
		{"(function f() {f();}); f;", "f"},
		{"x = function f(a) {return function() {f(a);};}; f(a);", "a f x"},
		{"(function f() {(function g() {f; g;}); g;});", "g"},
		{"(function() {f;});", "f"},
		{"let f = function() {f;};", ""},
	})
}

func TestFreeInCatch(t *testing.T) {
	wantFree(t, [][2]string{
		{"try {} catch (e) {e;}", ""},
		{"try {} catch (e) {} e;", "e"},
		{"try {e;} catch (e) {}", "e"},
		{"try {} catch (e) {} finally {e;}", "e"},
		{"try {} catch (e) {{e;} function f() {e;} x = function() {e;};}", "x"},
		{"try {} catch (e) {try {e;} catch (g) {e; g;} g;}", "g"},
		{"try {} catch (e) {try {} catch (e) {e;} e;} e;", "e"},
		{"try {} catch (e) {var e; e;} e;", ""},
		{"try {} catch (e) {f; let f; e = f;}", ""},
		{"try {} catch (a) {a;} finally {try {} catch (b) {a; b;}}", "a"},
	})
}

// What goes out of a scope uncovers what is around it, as often as it is declared.
func TestFreeHidden(t *testing.T) {
	wantFree(t, [][2]string{
		{"function f(a) {var a; let a; function a() {} a;} a;", "a"},
		{"let a; {let a; {let a;} a;} a;", ""},
		{"(function a(a) {var a; a;}); a;", "a"},
		{"(function arguments(arguments) {var arguments;}); arguments;", "arguments"},
		{"function f() {arguments; function g(arguments) {arguments;} arguments;}", ""},
	})
}

// Parts of a program are asked as if nothing stood around them.
func TestFreeOfParts(t *testing.T) {
	const f = "var a; function f(b) {var c; a; b; c; d; f; arguments;}"
	wantNames(t, "a function", hoist.Free(first(t, f, api.Func)), "a d f")
	wantNames(t, "parameters", hoist.Free(first(t, f, api.Params)), "")
	const l = "var a; x = function f(b) {var c; a; b; c; d; f; arguments;};"
	wantNames(t, "a lambda", hoist.Free(first(t, l, api.Lambda)), "a d")
	wantNames(t, "an assignment", hoist.Free(first(t, l, api.Assign)), "a d x")
	wantNames(t, "a block", hoist.Free(first(t, "{let a; var b; a; b; c;}", api.Block)), "b c")
	const c = "try {a;} catch (e) {var b; b; e;} finally {e;}"
	wantNames(t, "a try", hoist.Free(first(t, c, api.Try)), "a b e")
	wantNames(t, "a catch", hoist.Free(first(t, c, api.Catch)), "b")
	wantNames(t, "a finally", hoist.Free(first(t, c, api.Finally)), "e")
	wantNames(t, "a let", hoist.Free(first(t, "let a = a + b;", api.Let)), "a b")
	wantNames(t, "a name", hoist.Free(first(t, "let a = a + b;", api.Name)), "a")
	wantNames(t, "a number", hoist.Free(first(t, "1;", api.Num)), "")
}

// Every part of a program can be asked everything.
func TestEveryPart(t *testing.T) {
	n := parse(t, "'use strict'; var a = 1; let b; const c = 's'; function f(a, b) {return a.b; return;} {;} if (!a) throw typeof b; else delete c; while (a < b) with (f) x = {p: true, q: null}; try {a(b, undefined);} catch (e) {e === false;} finally {(function g() {a + b - c * e || f && g;});}")
	kinds := map[int]int{}
	tree.Walk(n, func(k *api.Node) bool {
		kinds[k.Kind]++
		hoist.Vars(k)
		hoist.Funcs(k)
		hoist.Lets(k)
		hoist.Names(k, true)
		hoist.Names(k, false)
		hoist.Free(k)
		return true
	})
	for kind := api.Program; kind <= api.Params; kind++ {
		if kinds[kind] == 0 {
			t.Errorf("no node of kind %d was asked", kind)
		}
	}
}
