package alpha_test

import (
	"testing"

	"sloppyscope/alpha"
	"sloppyscope/api"
	"sloppyscope/plain"
	"sloppyscope/tree"
)

// Promise 8.2: what Rename changes.

func TestDocument(t *testing.T) {
	c, err := alpha.Rename(parse(t, "function f(a) { return a; }"), 1, "a", "b")
	if got, want := tree.Text(c), "function f(b) {return b;}\n"; err != nil || got != want {
		t.Errorf("%v, got %q, want %q", err, got, want)
	}
}

// renamed is a program's text, a node of it by its kind, and the program in which a of that one's scope is z.
type renamed struct {
	text      string
	kind, nth int
	want      string
}

func wantRenamed(t *testing.T, cases []renamed) {
	t.Helper()
	for _, c := range cases {
		wantChanged(t, c, "a", "z")
	}
}

func wantChanged(t *testing.T, c renamed, old, other string) {
	t.Helper()
	n := parse(t, c.text)
	got, err := alpha.Rename(n, number(t, n, c.kind, c.nth), old, other)
	if err != nil || !plain.Same(got, parse(t, c.want)) {
		t.Errorf("%s, kind %d (%d), %s to %s: %v\n\tgot  %s\twant %s", c.text, c.kind, c.nth, old, other, err, tree.Text(got), c.want)
	}
	if !plain.Same(n, parse(t, c.text)) {
		t.Errorf("%s was changed", c.text)
	}
	wantApart(t, n, got)
}

// Each kind of node that declares.
func TestRenameDeclares(t *testing.T) {
	wantRenamed(t, []renamed{
		// Parameters.
		{"function f(a) {}", api.Func, 0, "function f(z) {}"},
		{"function f(b, a, c) {}", api.Func, 0, "function f(b, z, c) {}"},
		{"function f(a, b, a) {}", api.Func, 0, "function f(z, b, z) {}"},
		{"(function(a) {});", api.Lambda, 0, "(function(z) {});"},
		// Var, wherever it stands.
		{"function f() {var a;}", api.Func, 0, "function f() {var z;}"},
		{"function f() {var a = 1; var b = 2; var a = 3;}", api.Func, 0, "function f() {var z = 1; var b = 2; var z = 3;}"},
		{"function f() {if (1) var a; else var a; while (1) {var a;} {{var a;}} try {var a;} catch (e) {var a;} finally {var a;}}", api.Func, 0,
			"function f() {if (1) var z; else var z; while (1) {var z;} {{var z;}} try {var z;} catch (e) {var z;} finally {var z;}}"},
		{"(function() {var a;});", api.Lambda, 0, "(function() {var z;});"},
		// Let and Const.
		{"let a; const b = 1;", api.Program, 0, "let z; const b = 1;"},
		{"let b; const a = 1;", api.Program, 0, "let b; const z = 1;"},
		{"function f() {let a; const b = 1;}", api.Func, 0, "function f() {let z; const b = 1;}"},
		{"function f() {const a = 1; let b;}", api.Func, 0, "function f() {const z = 1; let b;}"},
		{"{let a; let b;}", api.Block, 0, "{let z; let b;}"},
		{"{const a = 1; const b = 1;}", api.Block, 0, "{const z = 1; const b = 1;}"},
		// Func.
		{"function f() {function a() {} function b() {}}", api.Func, 0, "function f() {function z() {} function b() {}}"},
		{"function f() {function a() {} function a() {}}", api.Func, 0, "function f() {function z() {} function z() {}}"},
		{"(function() {function a() {}});", api.Lambda, 0, "(function() {function z() {}});"},
		{"{function a() {} function b() {}}", api.Block, 0, "{function z() {} function b() {}}"},
		// Catch.
		{"try {} catch (a) {}", api.Catch, 0, "try {} catch (z) {}"},
		{"try {} catch (a) {a;} finally {a;}", api.Catch, 0, "try {} catch (z) {z;} finally {a;}"},
		// Several kinds at once.
		{"function f(a) {var a; function a() {} {var a;} a;}", api.Func, 0, "function f(z) {var z; function z() {} {var z;} z;}"},
		// Those that stand twice where they may not are changed, too.
		{"let a; const a = 1; a;", api.Program, 0, "let z; const z = 1; z;"},
		{"{let a; let a; function a() {}}", api.Block, 0, "{let z; let z; function z() {}}"},
		{"function f(a) {let a;}", api.Func, 0, "function f(z) {let z;}"},
	})
}

// Each way in which a Name is used.
func TestRenameUses(t *testing.T) {
	wantRenamed(t, []renamed{
		{"let a; a;", api.Program, 0, "let z; z;"},
		{"a; let a;", api.Program, 0, "z; let z;"},
		{"let a = a;", api.Program, 0, "let z = z;"},
		{"let a; a = 1; a = a;", api.Program, 0, "let z; z = 1; z = z;"},
		{"let a; a.b = a; a.b.c; delete a.b;", api.Program, 0, "let z; z.b = z; z.b.c; delete z.b;"},
		{"let a; typeof a; delete a; !a;", api.Program, 0, "let z; typeof z; delete z; !z;"},
		{"let a; a + a - a * a < a === a && a || a;", api.Program, 0, "let z; z + z - z * z < z === z && z || z;"},
		{"let a; a(a, b, a); print(a);", api.Program, 0, "let z; z(z, b, z); print(z);"},
		{"let a; if (a) a; else a; while (a) a; throw a;", api.Program, 0, "let z; if (z) z; else z; while (z) z; throw z;"},
		{"let a; try {a;} catch (e) {a;} finally {a;}", api.Program, 0, "let z; try {z;} catch (e) {z;} finally {z;}"},
		{"function f(a) {return a;}", api.Func, 0, "function f(z) {return z;}"},
		{"function f() {var a = a; return function() {return a;};}", api.Func, 0, "function f() {var z = z; return function() {return z;};}"},
		{"{let a; function f(b) {a; {a;} return function() {a;};}}", api.Block, 0, "{let z; function f(b) {z; {z;} return function() {z;};}}"},
		{"try {} catch (a) {a; {a;} (function(b) {a;});}", api.Catch, 0, "try {} catch (z) {z; {z;} (function(b) {z;});}"},
	})
}

// What is no name of a scope stays, whatever its text is.
func TestRenameOtherTexts(t *testing.T) {
	wantRenamed(t, []renamed{
		{"let a; a.a; a.a = {a: a, b: 'a'}; 'a';", api.Program, 0, "let z; z.a; z.a = {a: z, b: 'a'}; 'a';"},
		{"function f(a) {a.a.a(a); delete a.a;}", api.Func, 0, "function f(z) {z.a.a(z); delete z.a;}"},
		{"let a; aa; a1; _a;", api.Program, 0, "let z; aa; a1; _a;"},
	})
	wantChanged(t, renamed{"'use strict'; let strict; strict;", api.Program, 0, "'use strict'; let b; b;"}, "strict", "b")
	wantChanged(t, renamed{"function f(strict) {'use strict'; strict;}", api.Func, 0, "function f(b) {'use strict'; b;}"}, "strict", "b")
}

// A name of another scope stays, though it is the same.
func TestRenameOtherScopes(t *testing.T) {
	const nest = "let a; a; {let a; a; {let a; a;} a;} a;"
	const kinds = "let a; a; function f(a) {a; {let a; a;} try {a;} catch (a) {a;} (function(a) {a;}); a;} a;"
	wantRenamed(t, []renamed{
		{nest, api.Program, 0, "let z; z; {let a; a; {let a; a;} a;} z;"},
		{nest, api.Block, 0, "let a; a; {let z; z; {let a; a;} z;} a;"},
		{nest, api.Block, 1, "let a; a; {let a; a; {let z; z;} a;} a;"},
		{kinds, api.Program, 0, "let z; z; function f(a) {a; {let a; a;} try {a;} catch (a) {a;} (function(a) {a;}); a;} z;"},
		{kinds, api.Func, 0, "let a; a; function f(z) {z; {let a; a;} try {z;} catch (a) {a;} (function(a) {a;}); z;} a;"},
		{kinds, api.Block, 1, "let a; a; function f(a) {a; {let z; z;} try {a;} catch (a) {a;} (function(a) {a;}); a;} a;"},
		{kinds, api.Catch, 0, "let a; a; function f(a) {a; {let a; a;} try {a;} catch (z) {z;} (function(a) {a;}); a;} a;"},
		{kinds, api.Lambda, 0, "let a; a; function f(a) {a; {let a; a;} try {a;} catch (a) {a;} (function(z) {z;}); a;} a;"},
		// Scopes side by side.
		{"{let a; a;} {let a; a;} a;", api.Block, 0, "{let z; z;} {let a; a;} a;"},
		{"{let a; a;} {let a; a;} a;", api.Block, 1, "{let a; a;} {let z; z;} a;"},
		{"function f(a) {a;} function g(a) {a;}", api.Func, 1, "function f(a) {a;} function g(z) {z;}"},
		// Vars and functions of functions within.
		{"function f() {var a; a; function g() {var a; a;} (function() {var a; a;}); function h() {function a() {} a;} a;}", api.Func, 0,
			"function f() {var z; z; function g() {var a; a;} (function() {var a; a;}); function h() {function a() {} a;} z;}"},
		{"function f() {var a; {function a() {} a;} {const a = 1; a;} a;}", api.Func, 0, "function f() {var z; {function a() {} a;} {const a = 1; a;} z;}"},
		// Declared further out, and used in a scope that doesn't declare it.
		{"function f() {var a; {let b; a; {a;}} function g(b) {a;}}", api.Func, 0, "function f() {var z; {let b; z; {z;}} function g(b) {z;}}"},
		// A var in a block is the function's: the block's own name is another one.
		{"function f() {{let a; var a; a;} a;}", api.Func, 0, "function f() {{let a; var z; a;} z;}"},
		{"function f() {{let a; var a; a;} a;}", api.Block, 1, "function f() {{let z; var a; z;} a;}"},
		// Vars and functions of the program are the global object's, not its scope's.
		{"let a; var a; a;", api.Program, 0, "let z; var a; z;"},
		{"function a() {} let a; a;", api.Program, 0, "function a() {} let z; z;"},
		{"let a; {var a; a;} if (a) var a;", api.Program, 0, "let z; {var a; z;} if (z) var a;"},
		{"{let a; a;} var a; a;", api.Block, 0, "{let z; z;} var a; a;"},
		// Where nothing takes it in, a let declares nothing.
		{"let a; if (a) let a;", api.Program, 0, "let z; if (z) let a;"},
		// Catch with the same name within and around.
		{"try {} catch (a) {a; try {} catch (a) {a;} a;}", api.Catch, 0, "try {} catch (z) {z; try {} catch (a) {a;} z;}"},
		{"try {} catch (a) {a; try {} catch (a) {a;} a;}", api.Catch, 1, "try {} catch (a) {a; try {} catch (z) {z;} a;}"},
		{"try {} catch (a) {let a; a;}", api.Catch, 0, "try {} catch (z) {let a; a;}"},
		{"try {} catch (a) {let a; a;}", api.Block, 1, "try {} catch (a) {let z; z;}"},
		{"function f() {var a; try {a;} catch (a) {a;} a;}", api.Func, 0, "function f() {var z; try {z;} catch (a) {a;} z;}"},
	})
}

// A function's own name stays: it is no name of the function's scope.
func TestRenameOwnName(t *testing.T) {
	wantRenamed(t, []renamed{
		{"(function a(a) {a;});", api.Lambda, 0, "(function a(z) {z;});"},
		{"(function a() {var a; a;});", api.Lambda, 0, "(function a() {var z; z;});"},
		{"(function a() {function a() {} a; {let a; a;}});", api.Lambda, 0, "(function a() {function z() {} z; {let a; a;}});"},
		{"function f() {var a = function a() {a;}; a;}", api.Func, 0, "function f() {var z = function a() {a;}; z;}"},
		{"let a; (function a() {a; {a;}}); a;", api.Program, 0, "let z; (function a() {a; {a;}}); z;"},
		{"let a = function a(b) {b; a;}; (function() {a;});", api.Program, 0, "let z = function a(b) {b; a;}; (function() {z;});"},
		{"function a(a) {a;} a;", api.Func, 0, "function a(z) {z;} a;"},
		{"{function a() {a;} a;}", api.Block, 0, "{function z() {z;} z;}"},
		{"{function a(a) {a;} a;}", api.Block, 0, "{function z(a) {a;} z;}"},
	})
}

// With, and the Name eval, matter within the node alone.
func TestRenameOutside(t *testing.T) {
	wantRenamed(t, []renamed{
		{"with (o) {let a; a;}", api.Block, 0, "with (o) {let z; z;}"},
		{"with (a) {let a; a;}", api.Block, 0, "with (a) {let z; z;}"},
		{"with (o) (function(a) {a;});", api.Lambda, 0, "with (o) (function(z) {z;});"},
		{"with (o) ; {let a; a;} with (a) a;", api.Block, 0, "with (o) ; {let z; z;} with (a) a;"},
		{"eval('a'); {let a; a;} eval;", api.Block, 0, "eval('a'); {let z; z;} eval;"},
		{"function f(b) {eval(b); try {} catch (a) {a;} with (b) a;}", api.Catch, 0, "function f(b) {eval(b); try {} catch (z) {z;} with (b) a;}"},
		{"try {eval;} catch (a) {a;} finally {with (a) a;}", api.Catch, 0, "try {eval;} catch (z) {z;} finally {with (a) a;}"},
		{"function f(eval) {{let a; a;}}", api.Block, 1, "function f(eval) {{let z; z;}}"},
		// Where eval is no Name's.
		{"function f(a) {var eval; a;}", api.Func, 0, "function f(z) {var eval; z;}"},
		{"function f(a) {function eval() {} a;}", api.Func, 0, "function f(z) {function eval() {} z;}"},
		{"function f(a) {a.eval(a); ({eval: a}); 'eval'; eval1;}", api.Func, 0, "function f(z) {z.eval(z); ({eval: z}); 'eval'; eval1;}"},
		{"{let a; const eval = a; (function eval() {}); try {} catch (eval) {}}", api.Block, 0, "{let z; const eval = z; (function eval() {}); try {} catch (eval) {}}"},
		{"let a; let eval; a;", api.Program, 0, "let z; let eval; z;"},
	})
}

// A catch and its vars matter, if both have the name.
func TestRenameBesideCatch(t *testing.T) {
	wantRenamed(t, []renamed{
		{"function f() {try {} catch (e) {var a; a;} a;}", api.Func, 0, "function f() {try {} catch (e) {var z; z;} z;}"},
		{"function f() {var a; try {} catch (a) {var e; a;} a;}", api.Func, 0, "function f() {var z; try {} catch (a) {var e; a;} z;}"},
		{"function f() {var a; try {} catch (e) {var e; a;} a;}", api.Func, 0, "function f() {var z; try {} catch (e) {var e; z;} z;}"},
		{"try {} catch (a) {var e; a;}", api.Catch, 0, "try {} catch (z) {var e; z;}"},
		// The vars of a function in it are not its own.
		{"try {} catch (a) {(function() {var a; a;}); a;}", api.Catch, 0, "try {} catch (z) {(function() {var a; a;}); z;}"},
		{"function f() {var a; try {} catch (a) {function g() {var a;}} a;}", api.Func, 0, "function f() {var z; try {} catch (a) {function g() {var a;}} z;}"},
		// Such a catch elsewhere, and around.
		{"try {} catch (a) {var a;} {let a; a;}", api.Block, 2, "try {} catch (a) {var a;} {let z; z;}"},
		{"try {} catch (a) {var a; {let a; a;} a;}", api.Block, 2, "try {} catch (a) {var a; {let z; z;} a;}"},
		{"try {} catch (a) {var a; (function(a) {a;});}", api.Lambda, 0, "try {} catch (a) {var a; (function(z) {z;});}"},
		{"try {let a; a;} catch (a) {var a; a;} finally {}", api.Block, 0, "try {let z; z;} catch (a) {var a; a;} finally {}"},
	})
	wantChanged(t, renamed{"function f(b) {try {} catch (a) {var a; b;}}", api.Func, 0, "function f(z) {try {} catch (a) {var a; z;}}"}, "b", "z")
}

// Other names that may come.
func TestRenameOtherNames(t *testing.T) {
	for _, other := range []string{"b", "_", "a1", "aa", "abcdefghijklmnopqrst", "strict", "print", "eval_", "argument", "p", "q", "s", "r", "length"} {
		const text = "'use strict'; let a = {q: 's', r: 'length'}; a.p;"
		want := "'use strict'; let " + other + " = {q: 's', r: 'length'}; " + other + ".p;"
		wantChanged(t, renamed{text, api.Program, 0, want}, "a", other)
	}
	wantChanged(t, renamed{"let _; _;", api.Program, 0, "let abcdefghijklmnopqrst; abcdefghijklmnopqrst;"}, "_", "abcdefghijklmnopqrst")
	wantChanged(t, renamed{"function f(print) {print;}", api.Func, 0, "function f(b) {b;}"}, "print", "b")
}

// Parts of a program are changed as if nothing stood around them.
func TestRenameParts(t *testing.T) {
	const text = "let a; function f(a) {a; var b; {let a; a;} try {} catch (a) {a;} let c; c; b;} with (a) eval;"
	cases := []struct {
		kind, nth, at int
		old, want     string
	}{
		{api.Func, 0, 0, "a", "let a; function f(z) {z; var b; {let a; a;} try {} catch (a) {a;} let c; c; b;} with (a) eval;"},
		{api.Func, 0, 0, "b", "let a; function f(a) {a; var z; {let a; a;} try {} catch (a) {a;} let c; c; z;} with (a) eval;"},
		{api.Block, 1, 0, "a", "let a; function f(a) {a; var b; {let z; z;} try {} catch (a) {a;} let c; c; b;} with (a) eval;"},
		{api.Catch, 0, 0, "a", "let a; function f(a) {a; var b; {let a; a;} try {} catch (z) {z;} let c; c; b;} with (a) eval;"},
		{api.Try, 0, 2, "a", "let a; function f(a) {a; var b; {let a; a;} try {} catch (z) {z;} let c; c; b;} with (a) eval;"},
		// A function's block alone is a block.
		{api.Block, 0, 0, "c", "let a; function f(a) {a; var b; {let a; a;} try {} catch (a) {a;} let z; z; b;} with (a) eval;"},
	}
	for _, c := range cases {
		n := part(t, text, c.kind, c.nth)
		got, err := alpha.Rename(n, c.at, c.old, "z")
		if err != nil || !plain.Same(got, part(t, c.want, c.kind, c.nth)) {
			t.Errorf("kind %d (%d), %s: %v, want that of %s", c.kind, c.nth, c.old, err, c.want)
		}
		wantApart(t, n, got)
	}
	block := part(t, text, api.Block, 0)
	if _, err := alpha.Rename(block, 0, "b", "z"); err != api.ErrMissing {
		t.Errorf("a var of a block alone: %v", err)
	}
	// What is around no longer counts: neither its names nor what it does.
	if _, err := alpha.Rename(part(t, text, api.Func, 0), 0, "b", "eval1"); err != nil {
		t.Errorf("a part: %v", err)
	}
	if _, err := alpha.Rename(part(t, "let z; {let a;}", api.Block, 0), 0, "a", "z"); err != nil {
		t.Errorf("the other name is around the part: %v", err)
	}
}

// Each part of a program can be asked, whatever is asked of it.
func TestRenameEveryPart(t *testing.T) {
	for _, k := range nodes(parse(t, each)) {
		many := len(nodes(k))
		for at := -1; at <= many; at++ {
			names, _ := alpha.Owns(k, at)
			for _, old := range append(names, "a", "b", "e", "f", "") {
				c, err := alpha.Rename(k, at, old, "z")
				if (c == nil) == (err == nil) {
					t.Fatalf("a part of kind %d, node %d, %s: %v, %v", k.Kind, at, old, c, err)
				}
			}
		}
	}
}
