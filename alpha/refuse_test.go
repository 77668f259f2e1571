package alpha_test

import (
	"errors"
	"math"
	"testing"

	"sloppyscope/alpha"
	"sloppyscope/api"
	"sloppyscope/plain"
)

// Promise 8.2: why Rename changes nothing.

// refused is a program's text, a node of it by its kind, what is to be changed, and why it may not be.
type refused struct {
	text       string
	kind, nth  int
	old, other string
	want       api.Errno
}

func wantRefused(t *testing.T, cases []refused) {
	t.Helper()
	for _, c := range cases {
		n := parse(t, c.text)
		got, err := alpha.Rename(n, number(t, n, c.kind, c.nth), c.old, c.other)
		e, place := plain.Place(err)
		if got != nil || e != c.want || place != -1 {
			t.Errorf("%s, kind %d (%d), %q to %q: %v, error %d at %d, want %d", c.text, c.kind, c.nth, c.old, c.other, got, e, place, c.want)
		}
		if !plain.Same(n, parse(t, c.text)) {
			t.Errorf("%s was changed", c.text)
		}
	}
}

func TestMissing(t *testing.T) {
	wantRefused(t, []refused{
		{"", api.Program, 0, "a", "z", api.ErrMissing},
		{"a;", api.Program, 0, "a", "z", api.ErrMissing},
		{"let b;", api.Program, 0, "a", "z", api.ErrMissing},
		{"let a;", api.Program, 0, "", "z", api.ErrMissing},
		{"let a;", api.Program, 0, "aa", "z", api.ErrMissing},
		// Vars and functions of a program are no names of its scope.
		{"var a; a;", api.Program, 0, "a", "z", api.ErrMissing},
		{"function a() {}", api.Program, 0, "a", "z", api.ErrMissing},
		// Names that lie there, but that the text doesn't declare there.
		{"function f() {arguments;}", api.Func, 0, "arguments", "z", api.ErrMissing},
		{"(function a() {a;});", api.Lambda, 0, "a", "z", api.ErrMissing},
		{"(function() {});", api.Lambda, 0, "", "z", api.ErrMissing},
		{"function a() {a;}", api.Func, 0, "a", "z", api.ErrMissing},
		// Those of scopes around and within.
		{"let a; {let b; a;}", api.Block, 0, "a", "z", api.ErrMissing},
		{"let b; {let a; a;}", api.Program, 0, "a", "z", api.ErrMissing},
		{"function f(b) {{let a;}}", api.Func, 0, "a", "z", api.ErrMissing},
		{"function f(a) {{let b; a;}}", api.Block, 1, "a", "z", api.ErrMissing},
		{"{var a; a;}", api.Block, 0, "a", "z", api.ErrMissing},
		{"try {} catch (e) {let a;}", api.Catch, 0, "a", "z", api.ErrMissing},
		{"function f() {try {} catch (a) {}}", api.Func, 0, "a", "z", api.ErrMissing},
		// Nodes that have no scope.
		{"function f(a) {let a;}", api.Block, 0, "a", "z", api.ErrMissing},
		{"function f(a) {}", api.Params, 0, "a", "z", api.ErrMissing},
		{"function f(a) {}", api.Name, 0, "a", "z", api.ErrMissing},
		{"let a;", api.Let, 0, "a", "z", api.ErrMissing},
		{"try {let a;} finally {let a;}", api.Try, 0, "a", "z", api.ErrMissing},
		{"try {let a;} finally {let a;}", api.Finally, 0, "a", "z", api.ErrMissing},
		{"with (o) {let a;}", api.With, 0, "a", "z", api.ErrMissing},
	})
}

func TestMissingNumbers(t *testing.T) {
	n := parse(t, "let a; {let a; a;} a; x;")
	many := len(nodes(n))
	for _, at := range []int{-1, -2, -3, many, many + 1, math.MinInt, math.MaxInt} {
		if c, err := alpha.Rename(n, at, "a", "z"); c != nil || err != api.ErrMissing {
			t.Errorf("node %d: %v, %v", at, c, err)
		}
		// Names that lie in the global scope have its owner as theirs, but that is no node's number.
		if c, err := alpha.Rename(n, at, "x", "z"); c != nil || err != api.ErrMissing {
			t.Errorf("node %d: %v, %v", at, c, err)
		}
	}
	for _, at := range []int{-1, 0, 1} {
		if c, err := alpha.Rename(nil, at, "a", "z"); c != nil || err != api.ErrMissing {
			t.Errorf("node %d of no program: %v, %v", at, c, err)
		}
	}
}

func TestNoName(t *testing.T) {
	others := []string{
		"", "1", "1a", "A", "aB", "a b", " a", "a ", "a.b", "a-b", "é", "a\n", "a\x00", "\xff", "'a'",
		"abcdefghijklmnopqrstu", "var", "let", "const", "function", "if", "else", "while", "with", "return", "throw",
		"try", "catch", "finally", "typeof", "delete", "true", "false", "null", "undefined", "eval", "arguments",
	}
	for _, other := range others {
		wantRefused(t, []refused{
			{"let a; a;", api.Program, 0, "a", other, api.ErrName},
			{"function f(a) {a;}", api.Func, 0, "a", other, api.ErrName},
		})
	}
	wantRefused(t, []refused{
		{"let eval;", api.Program, 0, "eval", "z", api.ErrName},
		{"let arguments;", api.Program, 0, "arguments", "z", api.ErrName},
		{"function f(eval, arguments) {}", api.Func, 0, "eval", "z", api.ErrName},
		{"function f(eval, arguments) {}", api.Func, 0, "arguments", "z", api.ErrName},
		{"(function() {var arguments;});", api.Lambda, 0, "arguments", "z", api.ErrName},
		{"{function eval() {}}", api.Block, 0, "eval", "z", api.ErrName},
		{"try {} catch (arguments) {}", api.Catch, 0, "arguments", "z", api.ErrName},
		{"let eval; let arguments;", api.Program, 0, "eval", "arguments", api.ErrName},
		{"let eval;", api.Program, 0, "eval", "eval", api.ErrName},
	})
}

func TestTwice(t *testing.T) {
	// The other one as the Text of each kind of node that is named: within the node, around it and elsewhere.
	for _, twice := range []string{
		"var z;", "let z;", "const z = 1;", "function z() {}", "(function z() {});", "try {} catch (z) {}", "z;", "z = 1;",
		"z.p;", "typeof z;", "delete z;", "({p: z});", "(function(z) {});", "function g(z) {}", "if (1) let z;", "{{var z;}}",
		"function g() {(function() {z;});}", "with (z) 1;", "eval(z);",
	} {
		wantRefused(t, []refused{
			{"let a; a; " + twice, api.Program, 0, "a", "z", api.ErrTwice},
			{"function f(a) {" + twice + "}", api.Func, 0, "a", "z", api.ErrTwice},
			{twice + " {let a;}", api.Program, 0, "b", "z", api.ErrMissing},
			{"{let a;}" + twice, api.Block, 0, "a", "z", api.ErrTwice},
			{"x = function(a) {};" + twice, api.Lambda, 0, "a", "z", api.ErrTwice},
			{"try {" + twice + "} catch (a) {}", api.Try, 0, "a", "z", api.ErrMissing},
			{"try {} catch (a) {} " + twice, api.Catch, 0, "a", "z", api.ErrTwice},
		})
	}
	// The name itself is there already.
	wantRefused(t, []refused{
		{"let a;", api.Program, 0, "a", "a", api.ErrTwice},
		{"function f(a) {}", api.Func, 0, "a", "a", api.ErrTwice},
		{"function f(a) {}", api.Func, 0, "a", "f", api.ErrTwice},
		{"try {} catch (a) {}", api.Catch, 0, "a", "a", api.ErrTwice},
		{"let a; print(a);", api.Program, 0, "a", "print", api.ErrTwice},
	})
}

func TestOpen(t *testing.T) {
	for _, open := range []string{
		"with (1) ;", "with (a) {a;}", "if (1) with (1) ; else ;", "(function() {with (1) ;});", "function g() {{with (1) ;}}",
		"eval('a');", "eval;", "b(eval);", "typeof eval;", "delete eval;", "eval.p;", "eval = 1;", "({p: eval});", "(0 || eval)('a');",
		"(function() {eval;});", "function g() {'use strict'; eval('1;');}", "function g(eval) {}", "(function(b, eval) {});",
		"let b = eval;", "try {} catch (e) {eval;}",
	} {
		wantRefused(t, []refused{
			{"let a; " + open, api.Program, 0, "a", "z", api.ErrArg},
			{"function f(a) {" + open + "}", api.Func, 0, "a", "z", api.ErrArg},
			{"x = function(a) {" + open + "};", api.Lambda, 0, "a", "z", api.ErrArg},
			{"{let a; " + open + "}", api.Block, 0, "a", "z", api.ErrArg},
			{"x; {const a = 1; {" + open + "}}", api.Block, 0, "a", "z", api.ErrArg},
			{"try {} catch (a) {" + open + "}", api.Catch, 0, "a", "z", api.ErrArg},
		})
	}
	wantRefused(t, []refused{
		{"function f(a, eval) {a;}", api.Func, 0, "a", "z", api.ErrArg},
		{"x = function(a, eval) {a;};", api.Lambda, 0, "a", "z", api.ErrArg},
	})
}

func TestCatch(t *testing.T) {
	wantRefused(t, []refused{
		// As the node itself.
		{"try {} catch (a) {var a;}", api.Catch, 0, "a", "z", api.ErrArg},
		{"try {} catch (a) {{if (1) {var b; var a = 1;}}}", api.Catch, 0, "a", "z", api.ErrArg},
		{"function f() {try {} catch (a) {while (1) var a;}}", api.Catch, 0, "a", "z", api.ErrArg},
		// Within it.
		{"function f() {try {} catch (a) {var a;}}", api.Func, 0, "a", "z", api.ErrArg},
		{"function f(a) {try {} catch (a) {{var a;}}}", api.Func, 0, "a", "z", api.ErrArg},
		{"(function() {var a; if (1) {try {} catch (b) {try {} catch (a) {var a;}}}});", api.Lambda, 0, "a", "z", api.ErrArg},
		{"let a; try {} catch (a) {var a;}", api.Program, 0, "a", "z", api.ErrArg},
		{"{let a; try {} catch (a) {var a;}}", api.Block, 0, "a", "z", api.ErrArg},
		{"try {} catch (a) {try {} catch (a) {var a;}}", api.Catch, 0, "a", "z", api.ErrArg},
		{"try {} catch (a) {try {} catch (a) {var a;}}", api.Catch, 1, "a", "z", api.ErrArg},
		// In a function within, too.
		{"function f(a) {function g() {try {} catch (a) {var a;}}}", api.Func, 0, "a", "z", api.ErrArg},
		{"{let a; (function() {try {} catch (a) {var a;}});}", api.Block, 0, "a", "z", api.ErrArg},
		{"try {} catch (a) {(function() {try {} catch (a) {var a;}});}", api.Catch, 0, "a", "z", api.ErrArg},
	})
}

// Of several errors the one that the document tells first is answered.
func TestOrder(t *testing.T) {
	wantRefused(t, []refused{
		// ErrMissing ahead of all.
		{"let b; with (eval) ;", api.Program, 0, "a", "1", api.ErrMissing},
		{"let b; with (eval) ;", api.Program, 0, "a", "b", api.ErrMissing},
		{"let b; with (eval) ;", api.Program, 0, "a", "z", api.ErrMissing},
		{"eval;", api.Program, 0, "eval", "eval", api.ErrMissing},
		{"function f() {arguments;}", api.Func, 0, "arguments", "f", api.ErrMissing},
		{"let a;", api.Program, 0, "1", "2", api.ErrMissing},
		// ErrName ahead of ErrTwice and ErrArg.
		{"let a; eval;", api.Program, 0, "a", "eval", api.ErrName},
		{"function f(a) {arguments;}", api.Func, 0, "a", "arguments", api.ErrName},
		{"let eval; let b;", api.Program, 0, "eval", "b", api.ErrName},
		{"let a; with (1) ;", api.Program, 0, "a", "var", api.ErrName},
		{"function f(eval) {}", api.Func, 0, "eval", "z", api.ErrName},
		{"try {} catch (arguments) {var arguments;}", api.Catch, 0, "arguments", "z", api.ErrName},
		// ErrTwice ahead of ErrArg.
		{"let a; with (1) z;", api.Program, 0, "a", "z", api.ErrTwice},
		{"with (1) ; let a; z;", api.Program, 0, "a", "z", api.ErrTwice},
		{"eval; let a;", api.Program, 0, "a", "a", api.ErrTwice},
		{"try {} catch (a) {var a; var z;}", api.Catch, 0, "a", "z", api.ErrTwice},
	})
}

// P3: errors are values of error, and an Errno is found in them.
func TestErrors(t *testing.T) {
	_, err := alpha.Rename(nil, 0, "a", "b")
	var e api.Errno
	if !errors.As(err, &e) || e != api.ErrMissing || !errors.Is(err, api.ErrMissing) {
		t.Errorf("%v", err)
	}
	c, err := alpha.Rename(parse(t, "let a;"), 0, "a", "b")
	if c == nil || err != nil {
		t.Errorf("nothing is wrong, but %v", err)
	}
}
