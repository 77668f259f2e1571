package where_test

import (
	"slices"
	"strconv"
	"strings"
	"testing"

	"sloppyscope/api"
	"sloppyscope/plain"
	"sloppyscope/run"
	"sloppyscope/tree"
	"sloppyscope/where"
)

// Promise 7.1, and P1 to P5 of it.

// parse is the program of a text that has no fault.
func parse(t *testing.T, text string) *api.Node {
	t.Helper()
	n, err := tree.Parse(text)
	if err != nil || n == nil {
		e, at := plain.Place(err)
		t.Fatalf("%.300q: error %d at %d", text, e, at)
	}
	return n
}

// nodes are all nodes of a program, by their numbers.
func nodes(n *api.Node) (l []*api.Node) {
	tree.Walk(n, func(k *api.Node) bool {
		l = append(l, k)
		return true
	})
	return l
}

// first is the first node of a kind, from the left, in the program of a text.
func first(t *testing.T, text string, kind int) *api.Node {
	t.Helper()
	l := nodes(parse(t, text))
	at := slices.IndexFunc(l, func(k *api.Node) bool { return k.Kind == kind })
	if at < 0 {
		t.Fatalf("%q has no node of kind %d", text, kind)
	}
	return l[at]
}

// owner writes the owner of a scope as the kind and the number of its node.
func owner(l []*api.Node, scope int) string {
	if scope == run.Global {
		return "Global"
	}
	if scope < 0 || scope >= len(l) {
		return "no node " + strconv.Itoa(scope)
	}
	kind := "no scope "
	switch l[scope].Kind {
	case api.Program:
		kind = "Program"
	case api.Block:
		kind = "Block"
	case api.Catch:
		kind = "Catch"
	case api.Func:
		kind = "Func"
	case api.Lambda:
		kind = "Lambda"
	}
	return kind + strconv.Itoa(scope)
}

// told writes uses as `a6=Func1`: the name a, node 6, lies in the scope of node 1, a Func; `?` behind it: that is not sure.
func told(n *api.Node, uses []where.Use) string {
	l, shown := nodes(n), []string(nil)
	for _, u := range uses {
		s := "no Name " + strconv.Itoa(u.At)
		if u.At >= 0 && u.At < len(l) && l[u.At].Kind == api.Name {
			s = l[u.At].Text + strconv.Itoa(u.At)
		}
		s += "=" + owner(l, u.Scope)
		if !u.Sure {
			s += "?"
		}
		shown = append(shown, s)
	}
	return strings.Join(shown, " ")
}

// uses is a program's text, and what is told of its names.
type uses struct{ text, want string }

func wantUses(t *testing.T, cases []uses) {
	t.Helper()
	for _, c := range cases {
		n := parse(t, c.text)
		if got := told(n, where.Of(n)); got != c.want {
			t.Errorf("%s\n\ttold %s\n\twant %s", c.text, got, c.want)
		}
	}
}

func TestDocument(t *testing.T) {
	n := parse(t, "function f(a) { return a; }")
	if got, want := where.Of(n), []where.Use{{At: 6, Scope: 1, Sure: true}}; !slices.Equal(got, want) {
		t.Errorf("got %v, want %v", got, want)
	}
}

func TestNothing(t *testing.T) {
	if got := where.Of(nil); len(got) != 0 {
		t.Errorf("no program: %v", got)
	}
	if where.Evals(nil) {
		t.Error("no program evals")
	}
	wantUses(t, []uses{
		{"", ""},
		{";", ""},
		{"1; 'a'; true; false; null; undefined;", ""},
		{"var a; let b; const c = 1; function f() {} {} try {} catch (e) {} finally {}", ""},
		// What is not a Name, though it has a name.
		{"({a: 1});", ""},
		{"(function f() {});", ""},
		{"'a'.a;", ""},
	})
}

// Every Name tells, in whatever it stands, and in the order in which they are numbered.
func TestOrder(t *testing.T) {
	wantUses(t, []uses{
		{"a;", "a2=Global"},
		{"var x = a;", "a2=Global"},
		{"let x = a;", "a2=Global"},
		{"const x = a;", "a2=Global"},
		{"if (a) b; else c;", "a2=Global b4=Global c6=Global"},
		{"while (a) b;", "a2=Global b4=Global"},
		{"function f() {return a;}", "a5=Global"},
		{"throw a;", "a2=Global"},
		{"try {a;} catch (e) {b;} finally {c;}", "a4=Global b8=Global c12=Global"},
		{"a = b;", "a3=Global b4=Global"},
		{"a.x = b;", "a4=Global b5=Global"},
		{"a || b && c === d < e + f - g * h;", "a3=Global b5=Global c7=Global d9=Global e12=Global f13=Global g15=Global h16=Global"},
		{"!a; typeof b; delete c;", "a3=Global b6=Global c9=Global"},
		{"delete a.b;", "a4=Global"},
		{"a(b, c)(d);", "a4=Global b5=Global c6=Global d7=Global"},
		{"a.b.c;", "a4=Global"},
		{"({a: b, c: d});", "b4=Global d6=Global"},
		{"a; a; a = a;", "a2=Global a4=Global a7=Global a8=Global"},
		{"print(eval);", "print3=Global eval4=Global"},
	})
}

// The names that follow one another have numbers that grow, however deep they stand.
func TestOrderInDepth(t *testing.T) {
	wantUses(t, []uses{
		{"a; {b; {c;} d;} e;", "a2=Global b5=Global c8=Global d10=Global e12=Global"},
		{"function f(p, q) {a; (function(r) {b;}); c;} d;", "a7=Global b14=Global c16=Global d18=Global"},
		{"a((function() {b;}), c);", "a3=Global b8=Global c9=Global"},
	})
}

func TestParametersAreNoUses(t *testing.T) {
	wantUses(t, []uses{
		{"function f(a, b, a) {}", ""},
		{"(function(a) {});", ""},
		{"(function f(f) {});", ""},
		{"function f(eval, arguments) {}", ""},
		{"function f(a) {a;} a;", "a6=Func1 a8=Global"},
	})
}

func TestInBlock(t *testing.T) {
	wantUses(t, []uses{
		{"{let a; a;}", "a4=Block1"},
		{"{a; let a;}", "a3=Block1"},
		{"{let a = a;}", "a3=Block1"},
		{"{const a = 1; a = 2;}", "a6=Block1"},
		{"{function a() {} a;}", "a6=Block1"},
		{"{function a() {a;}}", "a6=Block1"},
		// A Block without Names has no scope, and what it declares as var is no name of it.
		{"{a;}", "a3=Global"},
		{"{var a; a;}", "a4=Global"},
		{"function f() {{var a; a;}}", "a7=Func1"},
		{"{{let a;} a;}", "a5=Global"},
		{"{let b; a;}", "a4=Global"},
		// The innermost one.
		{"{let a; {let a; a;} a;}", "a6=Block3 a8=Block1"},
		{"{let a; {a; {a;}}}", "a5=Block1 a8=Block1"},
		{"{let a;} {a;} a;", "a5=Global a7=Global"},
		{"{let a; {let b; a; b;}}", "a6=Block1 b8=Block3"},
		// Blocks of all statements.
		{"if (a) {let a; a;} else {a; let a;}", "a2=Global a6=Block3 a9=Block7"},
		{"while (a) {let a; a;}", "a2=Global a6=Block3"},
		{"try {let a; a;} finally {let a; a;}", "a5=Block2 a10=Block7"},
		{"try {a; let b;} finally {b; let a;}", "a4=Global b9=Global"},
		// What stands alone in a statement is declared by nothing.
		{"if (a) let b; b;", "a2=Global b5=Global"},
		{"{if (a) function b() {} b;}", "a3=Global b8=Global"},
	})
}

func TestInCatch(t *testing.T) {
	wantUses(t, []uses{
		{"try {} catch (e) {e;}", "e6=Catch3"},
		{"try {e;} catch (e) {} finally {e;}", "e4=Global e10=Global"},
		{"try {} catch (e) {} e;", "e6=Global"},
		{"try {} catch (e) {a;}", "a6=Global"},
		{"try {} catch (e) {{{e;}} (function() {e;});}", "e8=Catch3 e14=Catch3"},
		// Its Block has a scope of its own, in it.
		{"try {} catch (e) {let e; e;}", "e7=Block4"},
		{"try {} catch (e) {let a; a; e;}", "a7=Block4 e9=Catch3"},
		// A var is no name of it.
		{"try {} catch (e) {var a; a; e;}", "a7=Global e9=Catch3"},
		{"try {} catch (e) {var e; e;} e;", "e7=Catch3 e9=Global"},
		{"try {} catch (e) {try {} catch (e) {e;} e;}", "e10=Catch7 e12=Catch3"},
		{"try {} catch (e) {try {} catch (a) {e; a;}}", "e10=Catch3 a12=Catch7"},
	})
}

func TestInFunction(t *testing.T) {
	wantUses(t, []uses{
		// As a parameter.
		{"function f(a, b) {a; b;}", "a7=Func1 b9=Func1"},
		{"function f(a, a) {a;}", "a7=Func1"},
		{"(function(a) {a;});", "a7=Lambda2"},
		// As arguments, declared or not.
		{"function f() {arguments;}", "arguments5=Func1"},
		{"(function() {arguments.length;});", "arguments7=Lambda2"},
		{"function f(arguments) {arguments;}", "arguments6=Func1"},
		{"function f() {let arguments; arguments;}", "arguments6=Func1"},
		{"arguments; function f() {} arguments;", "arguments2=Global arguments7=Global"},
		{"function f() {{let arguments; arguments;} arguments;}", "arguments7=Block4 arguments9=Func1"},
		{"function f() {function g() {arguments;}}", "arguments8=Func4"},
		// As a Var, wherever it stands in it.
		{"function f() {var a; a;}", "a6=Func1"},
		{"function f() {a; var a;}", "a5=Func1"},
		{"function f() {if (a) while (a) {var a;} a;}", "a5=Func1 a7=Func1 a11=Func1"},
		{"function f() {try {var a;} catch (e) {var b;} finally {var c;} a; b; c;}", "a14=Func1 b16=Func1 c18=Func1"},
		{"(function() {var a; a;});", "a7=Lambda2"},
		{"function f() {function g() {var a;} a;}", "a9=Global"},
		{"function f() {(function() {var a;}); a;}", "a10=Global"},
		// As a Func.
		{"function f() {function a() {} a;}", "a8=Func1"},
		{"function f() {{function a() {}} a;}", "a9=Global"},
		// As a Let or Const.
		{"function f() {let a; a;}", "a6=Func1"},
		{"function f() {const a = 1; a;}", "a7=Func1"},
		{"(function() {a; let a;});", "a6=Lambda2"},
		{"function f() {{let a;} a;}", "a7=Global"},
		// Its Block is no scope, whatever else it declares.
		{"function f(a) {let b; a; b;}", "a7=Func1 b9=Func1"},
	})
}

func TestInFunctions(t *testing.T) {
	wantUses(t, []uses{
		{"function f(a) {function g(b) {a; b; c;}}", "a10=Func1 b12=Func5 c14=Global"},
		{"function f(a) {(function(a) {a;}); a;}", "a11=Lambda6 a13=Func1"},
		{"function f(a) {} function g() {a;}", "a9=Global"},
		{"function f() {a; {let a; function g() {a;}}}", "a5=Global a12=Block6"},
		{"function f(a) {{let a; a;} a;}", "a8=Block5 a10=Func1"},
		{"{let a; function f() {a; var b; b;} b;}", "a7=Block1 b10=Func3 b12=Global"},
		{"try {} catch (e) {function f() {e;}}", "e9=Catch3"},
		// A Func's name is around it, a Lambda's own one within it alone.
		{"function f() {f;}", "f5=Global"},
		{"function g() {function f() {f;}}", "f8=Func1"},
		{"{function f() {f;}}", "f6=Block1"},
	})
}

func TestOwnName(t *testing.T) {
	wantUses(t, []uses{
		{"(function f() {f;}); f;", "f6=Lambda2 f8=Global"},
		{"(function f(a) {(function g() {f; g; a;}); g;});", "f11=Lambda2 g13=Lambda7 a15=Lambda2 g17=Global"},
		{"let f = (function() {f;});", "f6=Program0"},
		{"let f = (function f() {f;});", "f6=Lambda2"},
		{"(function f() {{let f; f;} f;});", "f8=Block5 f10=Lambda2"},
		// What the function declares hides it.
		{"(function f(f) {f;});", "f7=Lambda2"},
		{"(function arguments() {arguments;});", "arguments6=Lambda2"},
		// It lies behind the function's own scope.
		{"(function f() {eval(); f;});", "eval7=Global? f9=Lambda2?"},
		{"(function f(f) {eval(); f;});", "eval8=Global? f10=Lambda2"},
		{"(function f() {eval(); f; var f;});", "eval7=Global? f9=Lambda2"},
		{"(function arguments() {eval(); arguments;});", "eval7=Global? arguments9=Lambda2"},
	})
}

func TestInProgram(t *testing.T) {
	wantUses(t, []uses{
		{"let a; a;", "a3=Program0"},
		{"a; let a;", "a2=Program0"},
		{"const a = a; a;", "a2=Program0 a4=Program0"},
		{"let a; {a; function f() {a;} (function(b) {a;});}", "a4=Program0 a9=Program0 a16=Program0"},
		{"let a; {let a; a;} a; function f() {return a;}", "a5=Block2 a7=Program0 a12=Program0"},
		// Vars and Funcs lie in the global object.
		{"var a; a;", "a3=Global"},
		{"a; {var a; a;}", "a2=Global a6=Global"},
		{"function f() {} f();", "f6=Global"},
		{"{let a;} a;", "a4=Global"},
		{"if (b) let a; a;", "b2=Global a5=Global"},
		// Nowhere.
		{"a; function f() {b;}", "a2=Global b7=Global"},
		{"let a; b;", "b3=Global"},
	})
}

func TestWith(t *testing.T) {
	wantUses(t, []uses{
		// Ahead of where it lies.
		{"with (1) a;", "a4=Global?"},
		{"let a; with (1) a;", "a5=Program0?"},
		{"{let a; with (1) {a;}}", "a7=Block1?"},
		{"try {} catch (e) {with (1) e;}", "e8=Catch3?"},
		{"function f(a) {with (1) {a; arguments; b; var b;}}", "a9=Func1? arguments11=Func1? b13=Func1?"},
		{"(function f() {with (1) f;});", "f8=Lambda2?"},
		{"with (1) {let a; {b; a;}}", "b7=Global? a9=Block3"},
		{"with (1) a = delete b;", "a5=Global? b7=Global?"},
		{"with (1) with (2) a;", "a6=Global?"},
		// Its value stands outside of it.
		{"with (a) ;", "a2=Global"},
		{"let a; with (a) a;", "a3=Program0 a5=Program0?"},
		{"with (a) with (b) c;", "a2=Global b4=Global? c6=Global?"},
		{"with ((function() {a;})) ;", "a6=Global"},
		// Behind where it lies, it doesn't matter: what is in there has its own neighbour.
		{"with (1) {let a; a;}", "a6=Block3"},
		{"with (1) {function a() {} a;}", "a8=Block3"},
		{"with (1) try {} catch (e) {e;}", "e8=Catch5"},
		{"with (1) (function(a) {a; arguments; var b; b;});", "a9=Lambda4 arguments11=Lambda4 b14=Lambda4"},
		{"with (1) (function f() {f;});", "f8=Lambda4"},
		{"with (1) {let a; with (2) a;}", "a8=Block3?"},
		// Beside it.
		{"with (1) ; a;", "a5=Global"},
		{"a; with (1) ;", "a2=Global"},
		{"with (1) {} let a; a;", "a6=Program0"},
		// Around functions.
		{"with (1) {function f() {a;} f;}", "a8=Global? f10=Block3"},
		{"function f() {with (1) {(function(b) {a; b;});}}", "a13=Global? b15=Lambda8"},
		{"with (1) function f(a) {a; b;}", "a8=Func3 b10=Global?"},
		// In strict code, too, though that is wrong ahead of running.
		{"'use strict'; with (1) a;", "a6=Global?"},
	})
}

func TestEvalInFunction(t *testing.T) {
	wantUses(t, []uses{
		// Ahead of where it lies.
		{"function f() {eval(); a;}", "eval6=Global? a8=Global?"},
		{"function f() {a; eval();}", "a5=Global? eval8=Global?"},
		{"let a; function f() {eval(); a;}", "eval7=Global? a9=Program0?"},
		{"{let a; function f() {eval(); a;}}", "eval8=Global? a10=Block1?"},
		{"try {} catch (e) {(function() {eval(); e;});}", "eval11=Global? e13=Catch3?"},
		{"function f(a) {function g() {eval(); a;}}", "eval10=Global? a12=Func1?"},
		{"(function() {eval(); a;});", "eval7=Global? a9=Global?"},
		{"(function f() {eval(); f;});", "eval7=Global? f9=Lambda2?"},
		// The scope itself, and what is further in.
		{"function f(a) {eval(); a; arguments; var b; b; let c; c;}", "eval7=Global? a9=Func1 arguments11=Func1 b14=Func1 c17=Func1"},
		{"function f(eval) {eval();}", "eval7=Func1"},
		{"function f() {eval(); {let a; a;}}", "eval6=Global? a10=Block7"},
		{"function f() {eval(); try {} catch (e) {e;}}", "eval6=Global? e12=Catch9"},
		{"function f() {eval(); (function(a) {a; b;});}", "eval6=Global? a13=Lambda8 b15=Global?"},
		{"function f() {eval(); (function g() {g;});}", "eval6=Global? g12=Lambda8"},
		{"function f() {eval(); var a; (function() {a;});}", "eval6=Global? a13=Func1"},
		// In whatever part of the function.
		{"function f() {{if (1) x = {p: eval()};} a;}", "x9=Global? eval13=Global? a15=Global?"},
		{"function f() {try {} catch (e) {eval();} a;}", "eval10=Global? a12=Global?"},
		{"function f() {return 1 + eval(eval);} ", "eval8=Global? eval9=Global?"},
		{"function f() {eval('1').b; a;}", "eval7=Global? a10=Global?"},
		{"function f() {print(1, eval(2)); a;}", "print6=Global? eval9=Global? a12=Global?"},
		// A function in it, or around it.
		{"function f() {function g() {eval();} a;}", "eval9=Global? a11=Global"},
		{"function f() {a; (function() {eval(); b;});}", "a5=Global eval12=Global? b14=Global?"},
		{"function f() {eval(); function g() {a;}}", "eval6=Global? a11=Global?"},
		{"function f() {function g() {function h() {a;}} eval();}", "a11=Global? eval14=Global?"},
		{"function f() {function g(a) {function h() {a;}} eval();}", "a12=Func4 eval15=Global?"},
		// Another one, beside it.
		{"function f() {eval();} function g() {a;}", "eval6=Global? a11=Global"},
		// No call of that name.
		{"function f() {eval; a;}", "eval5=Global a7=Global"},
		{"function f() {(0 || eval)(); a;}", "eval8=Global a10=Global"},
		{"function f() {a.eval(); a.eval;}", "a7=Global a10=Global"},
		{"function f() {evals(); a(eval);}", "evals6=Global a9=Global eval10=Global"},
	})
}

// Eval'd code of the program itself declares in the global scope, where all that it hides lies.
func TestEvalInProgram(t *testing.T) {
	wantUses(t, []uses{
		{"eval(); a;", "eval3=Global a5=Global"},
		{"let a; {eval(); a;}", "eval5=Global a7=Program0"},
		{"{let a; eval(); a;}", "eval5=Global a7=Block1"},
		{"function f() {a;} eval();", "a5=Global eval8=Global"},
		{"try {eval();} catch (e) {e; a;}", "eval5=Global e9=Catch6 a11=Global"},
	})
}

func TestEvalInStrictCode(t *testing.T) {
	wantUses(t, []uses{
		{"function f() {'use strict'; eval(); a;}", "eval8=Global a10=Global"},
		{"(function() {'use strict'; eval(); a;});", "eval9=Global a11=Global"},
		{"(function f() {'use strict'; eval(); f;});", "eval9=Global f11=Lambda2"},
		// All within it is strict code.
		{"'use strict'; function f() {eval(); a;}", "eval8=Global a10=Global"},
		{"'use strict'; (function() {eval(); a;});", "eval9=Global a11=Global"},
		{"'use strict'; {function f() {eval(); a;}}", "eval9=Global a11=Global"},
		{"function f() {'use strict'; function g() {eval(); a;}}", "eval11=Global a13=Global"},
		{"function f() {'use strict'; {(function() {eval(); a;});}}", "eval13=Global a15=Global"},
		{"function f() {'use strict'; eval('1'); function g() {return h;}}", "eval8=Global h14=Global"},
		// Around it there may be another one.
		{"function f() {eval(); function g() {'use strict'; a;}}", "eval6=Global? a13=Global?"},
		{"function f() {function g() {'use strict'; eval(); a;} a;}", "eval11=Global a13=Global a15=Global"},
		{"function f() {eval(); function g() {'use strict'; eval(); a;} a;}", "eval6=Global? eval14=Global? a16=Global? a18=Global?"},
		// Beside it.
		{"function f() {'use strict';} function g() {eval(); a;}", "eval11=Global? a13=Global?"},
		{"(function() {'use strict';})(eval()); (function() {eval();});", "eval9=Global eval16=Global?"},
		// No directive.
		{"function f() {eval(); 'use strict'; a;}", "eval6=Global? a10=Global?"},
		{"function f() {{'use strict'; eval(); a;}}", "eval9=Global? a11=Global?"},
		{"function strict(strict) {eval(); a;}", "eval7=Global? a9=Global?"},
	})
}

func TestWithAndEval(t *testing.T) {
	wantUses(t, []uses{
		{"with (1) {function f() {'use strict'; eval(); a;}}", "eval11=Global? a13=Global?"},
		{"with (1) eval();", "eval5=Global?"},
		{"function f() {with (1) {let a; (function() {eval(); a;});}}", "eval14=Global? a16=Block6?"},
		{"function f(a) {with (1) eval(a); a;}", "eval9=Global? a10=Func1? a12=Func1"},
		{"function f(a) {(function(b) {with (b) {eval(); a;} b; a;}); eval();}", "b11=Lambda6 eval15=Global? a17=Func1? b19=Lambda6 a21=Func1? eval24=Global?"},
	})
}

// What is not sure may lie elsewhere when the program runs.
func TestNotSureForAReason(t *testing.T) {
	texts := []string{
		"with ({a: 1}) a;",
		"let a; with ({a: 1}) {a = 2;}",
		"(function(a) {with ({a: 1}) (function() {a;})();})();",
		"with ({eval: print}) eval();",
		"var a; (function() {eval('var a;'); a;})();",
		"let a; (function() {eval('function a() {}'); a;})();",
		"var a; (function() {(function() {a;})(eval('var a;'));})();",
		"(function() {{eval('var a;');} with ({}) {(function() {'use strict'; a;})();}})();",
	}
	for _, s := range texts {
		n := parse(t, s)
		r, err := run.Run(n)
		if err != nil {
			t.Fatalf("%s: error %d", s, api.Tell(err))
		}
		if !slices.ContainsFunc(r.Seen, func(pair [2]int) bool {
			return slices.ContainsFunc(where.Of(n), func(u where.Use) bool {
				return u.At == pair[0] && u.Scope != pair[1] && !u.Sure
			})
		}) {
			t.Errorf("%s: seen %v, told %s: all lie where they were told to lie", s, r.Seen, told(n, where.Of(n)))
		}
	}
}
