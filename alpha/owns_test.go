package alpha_test

import (
	"math"
	"slices"
	"strings"
	"testing"

	"sloppyscope/alpha"
	"sloppyscope/api"
	"sloppyscope/plain"
)

// Promise 8.1: Owns.

// owned is a program's text, a node of it by its kind, and the names of that one's scope.
type owned struct {
	text      string
	kind, nth int
	want      string
}

func wantOwned(t *testing.T, cases []owned) {
	t.Helper()
	for _, c := range cases {
		n := parse(t, c.text)
		got, ok := alpha.Owns(n, number(t, n, c.kind, c.nth))
		if strings.Join(got, " ") != c.want || ok != (c.want != "") {
			t.Errorf("%s, kind %d (%d): %q, %t, want %s", c.text, c.kind, c.nth, got, ok, c.want)
		}
		if !plain.Same(n, parse(t, c.text)) {
			t.Errorf("%s was changed", c.text)
		}
	}
}

func TestOwnsProgram(t *testing.T) {
	wantOwned(t, []owned{
		{"", api.Program, 0, ""},
		{"let a;", api.Program, 0, "a"},
		{"let c; const a = 1; ; let b = 2;", api.Program, 0, "c a b"},
		{"let b; const a = 1; let b; const a = 2;", api.Program, 0, "b a"},
		// What else it declares is the global object's.
		{"var a; function f() {}", api.Program, 0, ""},
		{"var a; let b; function f() {} const c = 1;", api.Program, 0, "b c"},
		{"var a; let b; let a;", api.Program, 0, "b a"},
		// Those within are no Lets of it.
		{"{let a;} if (1) let b; else {const c = 1;} function f() {let d;}", api.Program, 0, ""},
		{"try {let a;} catch (e) {let b;} finally {let c;} let d; (function() {let e;});", api.Program, 0, "d"},
		{"'use strict'; let a;", api.Program, 0, "a"},
	})
}

func TestOwnsFunction(t *testing.T) {
	// A Func and a Lambda have the same names.
	heads := []struct {
		kind         int
		ahead, after string
	}{
		{api.Func, "function f", ""},
		{api.Lambda, "(function f", ");"},
		{api.Lambda, "(function ", ");"},
		{api.Func, "{var x; function f", "}"},
		{api.Lambda, "let x = function f", ";"},
	}
	cases := []struct{ text, want string }{
		{"() {}", ""},
		{"(a) {}", "a"},
		{"(b, a) {}", "b a"},
		{"(b, a, b, a, b) {}", "b a"},
		{"(a, b, c, d, e, g, h, i) {}", "a b c d e g h i"},
		{"() {var a;}", "a"},
		{"() {let a;}", "a"},
		{"() {const a = 1;}", "a"},
		{"() {function a() {}}", "a"},
		// Parameters, vars, functions, lets.
		{"(p, q) {let d; function c() {} var a; const e = 1; var b; function g() {}}", "p q a b c g d e"},
		{"(z, y) {let a; var y; function z() {} var b;}", "z y b a"},
		{"() {var a; var b; var a; function b() {} let c; function c() {} let a;}", "a b c"},
		// Vars of all statements within.
		{"() {if (1) var a; else var b; while (1) {var c;} with (1) var d; {{var e;}}}", "a b c d e"},
		{"() {try {var a;} catch (e) {var b; var e;} finally {var c;}}", "a b e c"},
		// Functions and lets of blocks within are those blocks', and catch has its name itself.
		{"() {{let a; function b() {} const c = 1;} try {} catch (e) {} if (1) let x;}", ""},
		// What is in other functions is theirs.
		{"() {function g(p) {var a; let b;} var x = function h(q) {var c;};}", "x g"},
		// Names that are used are not declared; its own one is declared elsewhere.
		{"(a) {b = a; f; print(c); ({d: 1}).e; arguments;}", "a"},
		{"() {f; arguments;}", ""},
		{"(f) {}", "f"},
		{"() {var f;}", "f"},
		// If they are declared, these are names like others.
		{"(arguments, eval) {}", "arguments eval"},
		{"() {var arguments; let eval;}", "arguments eval"},
		{"(a) {'use strict'; var b;}", "a b"},
	}
	for _, h := range heads {
		for _, c := range cases {
			wantOwned(t, []owned{{h.ahead + c.text + h.after, h.kind, 0, c.want}})
		}
	}
	wantOwned(t, []owned{
		{"function f(a) {function g(b) {var c;} var d;}", api.Func, 1, "b c"},
		{"function f(a) {(function(b) {var c; {var d;}});}", api.Lambda, 0, "b c d"},
		{"(function(a) {(function(b) {let c;});});", api.Lambda, 1, "b c"},
	})
}

func TestOwnsBlock(t *testing.T) {
	wantOwned(t, []owned{
		{"{}", api.Block, 0, ""},
		{"{a; 1;}", api.Block, 0, ""},
		{"{let a;}", api.Block, 0, "a"},
		{"{const a = 1;}", api.Block, 0, "a"},
		{"{function a() {}}", api.Block, 0, "a"},
		{"{let b; function g() {} const a = 1; function f() {}}", api.Block, 0, "g f b a"},
		{"{let b; function b() {} let a; function b() {} let a;}", api.Block, 0, "b a"},
		{"{var a; {var b;}}", api.Block, 0, ""},
		{"{var a; let b;}", api.Block, 0, "b"},
		{"{{let a;}}", api.Block, 0, ""},
		{"{{let a;}}", api.Block, 1, "a"},
		{"{let a; {let a; let b;}}", api.Block, 0, "a"},
		{"{let a; {let a; let b;}}", api.Block, 1, "a b"},
		{"if (1) {let a;} else {let b;}", api.Block, 0, "a"},
		{"if (1) {let a;} else {let b;}", api.Block, 1, "b"},
		{"while (1) {let a;}", api.Block, 0, "a"},
		{"with (1) {let a;}", api.Block, 0, "a"},
		{"try {let a;} catch (e) {let b;} finally {let c;}", api.Block, 0, "a"},
		{"try {let a;} catch (e) {let b;} finally {let c;}", api.Block, 1, "b"},
		{"try {let a;} catch (e) {let b;} finally {let c;}", api.Block, 2, "c"},
		// A function's block has no scope, but those in it have.
		{"function f(a) {let b; var c; function g() {}}", api.Block, 0, ""},
		{"(function f(a) {let b; var c; function g() {}});", api.Block, 0, ""},
		{"function f() {'use strict'; let b;}", api.Block, 0, ""},
		{"function f(p, q) {let a; {let b;}}", api.Block, 1, "b"},
		{"function f() {let a; {let b;} {let c;}}", api.Block, 2, "c"},
		{"function f() {let a; function g() {let b;} {let c;}}", api.Block, 1, ""},
		{"function f() {let a; function g() {let b;} {let c;}}", api.Block, 2, "c"},
		{"(function() {let a;}); {let b;}", api.Block, 0, ""},
		{"(function() {let a;}); {let b;}", api.Block, 1, "b"},
		{"{let a; (function() {let b; {let c;}});}", api.Block, 0, "a"},
		{"{let a; (function() {let b; {let c;}});}", api.Block, 1, ""},
		{"{let a; (function() {let b; {let c;}});}", api.Block, 2, "c"},
	})
}

func TestOwnsCatch(t *testing.T) {
	wantOwned(t, []owned{
		{"try {} catch (e) {}", api.Catch, 0, "e"},
		{"try {let a;} catch (e) {let b; var c; function d() {}} finally {let g;}", api.Catch, 0, "e"},
		{"try {} catch (e) {try {} catch (a) {}}", api.Catch, 0, "e"},
		{"try {} catch (e) {try {} catch (a) {}}", api.Catch, 1, "a"},
		{"try {} catch (eval) {var eval;}", api.Catch, 0, "eval"},
	})
}

// Nodes of other kinds have no scope, whatever they declare or have within.
func TestOwnsOthers(t *testing.T) {
	for _, text := range []string{
		each,
		"let a = function b(c) {let d;}; var e = 1; const g = {h: 1}; function i(j) {}",
		"if (a) {let b;} else {let c;} while (a) {let b;} with (a) {let b;} try {let b;} finally {let c;}",
	} {
		n := parse(t, text)
		for at, k := range nodes(n) {
			switch k.Kind {
			case api.Program, api.Func, api.Lambda, api.Block, api.Catch:
				continue
			}
			if got, ok := alpha.Owns(n, at); ok || len(got) != 0 {
				t.Errorf("%s, node %d of kind %d: %q, %t", text, at, k.Kind, got, ok)
			}
		}
	}
}

func TestOwnsNoNumber(t *testing.T) {
	n := parse(t, "let a; {let b;}")
	many := len(nodes(n))
	for _, at := range []int{-1, -2, -3, many, many + 1, math.MinInt, math.MaxInt} {
		if got, ok := alpha.Owns(n, at); ok || len(got) != 0 {
			t.Errorf("node %d: %q, %t", at, got, ok)
		}
	}
	for _, at := range []int{-1, 0, 1} {
		if got, ok := alpha.Owns(nil, at); ok || len(got) != 0 {
			t.Errorf("node %d of no program: %q, %t", at, got, ok)
		}
	}
}

// Parts of a program are asked as if nothing stood around them: their numbers begin at 0.
func TestOwnsParts(t *testing.T) {
	const text = "let z; function f(a) {var b; let c; function g() {} {let d;} try {} catch (e) {var h;} (function k(i) {});}"
	cases := []struct {
		kind, nth int
		want      string
	}{
		{api.Program, 0, "z"},
		{api.Let, 0, ""},
		{api.Func, 0, "a b h g c"},
		{api.Params, 0, ""},
		{api.Name, 0, ""},
		{api.Block, 0, "g c"}, // no function has it any more
		{api.Block, 1, ""},
		{api.Block, 2, "d"},
		{api.Catch, 0, "e"},
		{api.Try, 0, ""},
		{api.Lambda, 0, "i"},
		{api.Expr, 0, ""},
	}
	for _, c := range cases {
		n := part(t, text, c.kind, c.nth)
		got, ok := alpha.Owns(n, 0)
		if strings.Join(got, " ") != c.want || ok != (c.want != "") {
			t.Errorf("kind %d (%d): %q, %t, want %s", c.kind, c.nth, got, ok, c.want)
		}
	}
	got, ok := alpha.Owns(part(t, text, api.Try, 0), 2)
	if !slices.Equal(got, []string{"e"}) || !ok {
		t.Errorf("the catch of a try: %q, %t", got, ok)
	}
	// The block of a part's function is still that function's.
	got, ok = alpha.Owns(part(t, "(function() {let a;});", api.Expr, 0), 3)
	if len(got) != 0 || ok {
		t.Errorf("the block of a lambda: %q, %t", got, ok)
	}
}

// P4: what comes out is the caller's.
func TestOwnsFresh(t *testing.T) {
	const text = "let z; function f(a) {var b; {let d;} try {} catch (e) {}}"
	n := parse(t, text)
	for at := range nodes(n) {
		one, ok := alpha.Owns(n, at)
		want := slices.Clone(one)
		for i := range one {
			one[i] = "spoilt"
		}
		one = append(one, "more")
		got, again := alpha.Owns(n, at)
		if !slices.Equal(got, want) || again != ok {
			t.Errorf("node %d asked again: %q, %t, want %q, %t", at, got, again, want, ok)
		}
	}
	if !plain.Same(n, parse(t, text)) {
		t.Error("the program was changed")
	}
}
