package run_test

import (
	"slices"
	"testing"

	"sloppyscope/run"
)

// Promise 6.7, and the owners of scopes (6.2 to 6.4, 6.6).

type seen = [][2]int

func wantSeen(t *testing.T, text string, want seen) {
	t.Helper()
	if got := do(t, text).Seen; !slices.Equal(got, want) {
		t.Errorf("%s\n\tseen %v\n\twant %v", text, got, want)
	}
}

func TestSeen(t *testing.T) {
	const global, object = run.Global, run.Object
	cases := []struct {
		text string
		want seen
	}{
		{"", nil},
		{"1; 'a'; var b = 1; let c; function f() {}", nil},
		// 0 program, 1 Func, 2 Params, 3 a, 4 Block, 5 Return, 6 a, 7 Expr, 8 Call, 9 f, 10 1
		{"function f(a) {return a;} f(1);", seen{{9, global}, {6, 1}}},
		// 1 Var, 2 1, 3 Let, 4 2, 5 Expr, 6 a, 7 Expr, 8 b
		{"var a = 1; let b = 2; a; b;", seen{{6, global}, {8, 0}}},
		// 1 Expr, 2 Call, 3 print, 4 print
		{"print(print);", seen{{3, global}, {4, global}}},
		// 1 Block, 2 Let, 3 Func, 4, 5, 6 Expr, 7 a, 8 Expr, 9 f
		{"{let a; function f() {} a; f;}", seen{{7, 1}, {9, 1}}},
		// 1 With, 2 Object, 3 Prop, 4 1, 5 Block, 6 Expr, 7 a, 8 Expr, 9 print
		{"with ({a: 1}) {a; print;}", seen{{7, object}, {9, global}}},
		// 1 Try, 2 Block, 3 Throw, 4 1, 5 Catch, 6 Block, 7 Expr, 8 e
		{"try {throw 1;} catch (e) {e;}", seen{{8, 5}}},
		// 1 Expr, 2 Call, 3 Lambda, 4 Params, 5 a, 6 Block, 7 Expr, 8 f, 9 Expr, 10 a, 11 Expr, 12 arguments
		{"(function f(a) {f; a; arguments;})();", seen{{8, 3}, {10, 3}, {12, 3}}},
		// A block that declares nothing has no scope.
		{"{{print;}}", seen{{4, global}}},
	}
	for _, c := range cases {
		wantSeen(t, c.text, c.want)
	}
}

func TestSeenAssigned(t *testing.T) {
	const global, object = run.Global, run.Object
	cases := []struct {
		text string
		want seen
	}{
		// 1 Expr, 2 Assign, 3 a, 4 1: found nowhere, then in the global object.
		{"a = 1; a = 1;", seen{{7, global}}},
		// 1 Var, 2 Expr, 3 Assign, 4 a, 5 a: ahead of the value.
		{"var a; a = a;", seen{{4, global}, {5, global}}},
		// 1 Var, 2 Object, 3 Expr, 4 Assign, 5 Member, 6 o, 7 1: a property is no Name.
		{"var o = {}; o.a = 1;", seen{{6, global}}},
		// 1 Let, 2 1, 3 Block, 4 Let, 5 Expr, 6 Assign, 7 a, 8 b
		{"let b = 1; {let a; a = b;}", seen{{7, 3}, {8, 0}}},
		// A Var is no Name, wherever it is found.
		{"with ({a: 1}) var a = 2;", nil},
		{"var a = 1; var b = a;", seen{{4, global}}},
		// 1 With, 2 Object, 3 Prop, 4 1, 5 Expr, 6 Assign, 7 a, 8 2
		{"with ({a: 1}) a = 2;", seen{{7, object}}},
		// 1 Expr, 2 Call, 3 Lambda, 4 Params, 5 Block, 6 Expr, 7 Assign, 8 f, 9 1: its own name, though nothing is set.
		{"(function f() {f = 1;})();", seen{{8, 3}}},
	}
	for _, c := range cases {
		wantSeen(t, c.text, c.want)
	}
}

func TestSeenOrNot(t *testing.T) {
	const global = run.Global
	cases := []struct {
		text string
		want seen
	}{
		// Not of Delete, but of what it works out.
		{"var a; delete a;", nil},
		{"delete a;", nil},
		{"var o = {}; delete o.a;", seen{{6, global}}},
		{"delete print();", seen{{4, global}}},
		// Not where Typeof finds none.
		{"typeof a;", nil},
		{"typeof print;", seen{{3, global}}},
		// Found, though not ready: 1 Block, 2 Expr, 3 a, 4 Let
		{"try {a; let a;} catch (e) {}", seen{{4, 2}}},
		{"try {typeof a; let a;} catch (e) {}", seen{{5, 2}}},
		{"try {a = 1; let a;} catch (e) {}", seen{{5, 2}}},
		// Found, though it can't be assigned.
		{"const a = 1; try {a = 2;} catch (e) {}", seen{{7, 0}}},
		// Nowhere.
		{"try {a;} catch (e) {}", nil},
		// Not begun.
		{"0 && print; 1 || print; if (0) print; while (0) print;", nil},
		{"function f() {print;}", nil},
	}
	for _, c := range cases {
		wantSeen(t, c.text, c.want)
	}
}

func TestSeenUpToTheEnd(t *testing.T) {
	if r := do(t, "print; throw 1; print;"); !slices.Equal(r.Seen, seen{{2, run.Global}}) || r.Code != run.Thrown {
		t.Errorf("thrown: %v", r)
	}
	r := do(t, "while (true) print;")
	// A step of the loop, then three a round.
	if want := slices.Repeat(seen{{4, run.Global}}, 6666); !slices.Equal(r.Seen, want) || r.Code != run.Stopped {
		t.Errorf("stopped: %d seen, want %d", len(r.Seen), len(want))
	}
}

func TestSeenWithEval(t *testing.T) {
	const global, object = run.Global, run.Object
	cases := []struct {
		text string
		want seen
	}{
		// Names of eval'd text are not seen: 1 Expr, 2 Call, 3 eval, 4 text
		{"eval('print; a_ = 1; a_; let b = 1; b; (function(c) {c;})();');", seen{{3, global}}},
		// Those of a function of the program's own that it calls are: 1 Func, 2 Params, 3 Block, 4 Expr, 5 print, 6 Expr, 7 Call, 8 eval
		{"function f() {print;} eval('f();');", seen{{8, global}, {5, global}}},
		// 1 Func, 2 Params, 3 Block, 4 Expr, 5 Call, 6 eval, 7 text, 8 Expr, 9 a, 10 Expr, 11 Call, 12 f
		{"function f() {eval('var a = 1;'); a;} f();", seen{{12, global}, {6, global}, {9, 1}}},
		{"function f() {eval('function a() {}'); a;} f();", seen{{12, global}, {6, global}, {9, 1}}},
		// 1 Expr, 2 Call, 3 eval, 4 text, 5 Expr, 6 a
		{"eval('var a = 1;'); a;", seen{{3, global}, {6, global}}},
		// 1 Expr, 2 Call, 3 Or, 4 0, 5 eval, 6 text, 7 Expr, 8 a
		{"(0 || eval)('var a = 1;'); a;", seen{{5, global}, {8, global}}},
		{"(0 || eval)('function a() {}'); a;", seen{{5, global}, {8, global}}},
		// 1 With, 2 Object, 3 Prop, 4 1, 5 Expr, 6 Assign, 7 a, 8 Call, 9 eval, 10 text: where it was found, though it is gone.
		{"with ({a: 1}) a = eval('delete a; 2;');", seen{{7, object}, {9, global}}},
	}
	for _, c := range cases {
		wantSeen(t, c.text, c.want)
	}
}

// P4: how often a scope is made does not matter: its owner is its node.
func TestSeenOwners(t *testing.T) {
	// 1 Func, 2 Params, 3 n, 4 Block, 5 If, 6 n, 7 Expr, 8 Call, 9 f, 10 Sub, 11 n, 12 1, 13 Expr, 14 Call, 15 f, 16 1
	wantSeen(t, "function f(n) {if (n) f(n - 1);} f(1);", seen{{15, -1}, {6, 1}, {9, -1}, {11, 1}, {6, 1}})
}
