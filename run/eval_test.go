package run_test

import (
	"strings"
	"testing"
)

// Promise 6.6.

// quoted is a text as a string of a program.
func quoted(text string) string {
	return "'" + strings.NewReplacer("\\", "\\\\", "'", "\\'", "\n", "\\n").Replace(text) + "'"
}

func TestCall(t *testing.T) {
	wantDid(t, []did{
		{"function f(n) {print(n); return f;} f('f')(f('a') && 1, f('b') && 2);", "f; a; b; 1; done"},
		{"(print('c') || 1)(print('a'));", "c; a; throws type"},
		{"a(print('a'));", "throws reference"},
		{"print(a, print('b'));", "throws reference"},
		{"print(print('a'), a);", "a; throws reference"},
		{"var o = {f: function(a) {return a;}}; print(o.f(3));", "3; done"},
		{"print((function() {return function(a) {return a;};})()(5));", "5; done"},
		{"var f = print; f(1);", "1; done"},
	})
	for _, k := range kinds()[:10] {
		wantThrown(t, "type", "("+k.value+")();", "("+k.value+")(1, 2);")
	}
}

func TestPrint(t *testing.T) {
	wantDid(t, []did{
		{"print();", "; done"},
		{"print('');", "; done"},
		{"print('', '');", " ; done"},
		{"print(1, 'a b', null, undefined, true, {}, print);", "1 a b null undefined true object function; done"},
		{"print('a\\nb');", "a\nb; done"},
		{"print(print(1));", "1; undefined; done"},
		{"print(1, 2, 3, 4, 5, 6, 7, 8);", "1 2 3 4 5 6 7 8; done"},
		{"print(0 - 5);", "-5; done"},
	})
	if r := do(t, "print(); print();"); len(r.Log) != 2 {
		t.Errorf("two lines of nothing: %q", r.Log)
	}
}

func TestEvalOfNoText(t *testing.T) {
	wantDid(t, []did{
		{"print(eval());", "undefined; done"},
		{"print(eval(5), eval(null), eval(undefined), eval(true));", "5 null undefined true; done"},
		{"var o = {}; print(eval(o) === o, eval(print) === print, (0 || eval)(o) === o);", "true true true; done"},
		{"print(eval(5, '6;'), eval('1;', '2;'));", "5 1; done"},
		{"print(eval('1;', print('a')));", "a; 1; done"},
	})
}

func TestEvalSyntax(t *testing.T) {
	for _, s := range []string{"(", "1", "a b;", "#", "'", "01;", "abcdefghijklmnopqrstu;", "1000000001;", "1 = 2;", "return;", "return 1;", "let a; let a;", "{let a; var a;}", "if (true) let a;", "const a;", "f(1, 2, 3, 4, 5, 6, 7, 8, 9);", strings.Repeat("!", 30) + "1;", "'use strict'; with ({}) ;", "'use strict'; delete a;", "'use strict'; eval = 1;"} {
		q := quoted(s)
		wantThrown(t, "syntax", "eval("+q+");", "(0 || eval)("+q+");", "'use strict'; eval("+q+");", "function f() {eval("+q+");} f();", "eval("+quoted("eval("+q+");")+");")
		wantDid(t, []did{{"try {eval(" + q + ");} catch (e) {print(e);} print(2);", "syntax; 2; done"}})
	}
	// Nothing is done of what can't be read.
	wantDid(t, []did{{"try {eval('print(1); var a = 1; (');} catch (e) {print(typeof a);}", "undefined; done"}})
	// These are wrong in strict code alone.
	for _, s := range []string{"with ({}) ;", "delete a;", "eval = 1;", "var arguments;", "(function(a, a) {});"} {
		q := quoted(s)
		wantThrown(t, "syntax", "'use strict'; eval("+q+");", "(function() {'use strict'; eval("+q+");})();", "eval("+quoted("'use strict'; eval("+q+");")+");")
		wantDid(t, []did{{"eval(" + q + "); print(1);", "1; done"}, {"'use strict'; (0 || eval)(" + q + "); print(1);", "1; done"}})
	}
}

// Called by its name, eval does its code where it stands.
func TestEvalByItsName(t *testing.T) {
	wantDid(t, []did{
		{"var x = 1; function f() {eval('var x = 2;'); return x;} print(f(), x);", "2 1; done"},
		{"function f(a) {let b = 2; {let c = 3; return eval('a + b + c;');}} print(f(1));", "6; done"},
		{"with ({a: 4}) print(eval('a;'));", "4; done"},
		{"try {throw 5;} catch (e) {print(eval('e;'));}", "5; done"},
		{"function f(a) {return (eval)('a;');} print(f(6));", "6; done"},
		{"function f(eval) {var x = 2; return eval('x;');} var x = 1; print(f(eval));", "2; done"},
		{"var x = 1; function f(x) {with ({eval: eval}) return eval('x;');} print(f(2));", "2; done"},
		{"function f(eval) {return eval('x');} print(f(function(a) {return a + 1;}));", "x1; done"},
		{"function f(eval) {return eval('x');} f(3);", "throws type"},
		{"function f(a) {eval('a = 2;'); return a;} print(f(1));", "2; done"},
		{"eval('a = 1;'); print(a, delete a);", "1 true; done"},
		{"function f() {eval('function g() {return typeof f;}'); return g();} print(f());", "function; done"},
	})
}

// Called otherwise, eval does its code in the program's scope.
func TestEvalByAnotherName(t *testing.T) {
	others := []string{"(0 || eval)", "e", "o.eval", "get()"}
	head := "var e = eval; var o = {eval: eval}; function get() {return eval;} "
	for _, other := range others {
		wantDid(t, []did{
			{head + "let a = 1; function f(a) {return " + other + "('a;');} print(f(2));", "1; done"},
			{head + "function f() {" + other + "('var x = 1;'); let y = 2; try {" + other + "('y;');} catch (e) {print(e);}} f(); print(x, delete x);", "reference; 1 true; done"},
			{head + "function f() {'use strict'; " + other + "('zz = 1;');} f(); print(zz);", "1; done"},
			{head + "function f() {let a; " + other + "('var a = 1;');} f(); print(a);", "1; done"},
			{head + "with ({a: 1}) " + other + "('var a = 2;'); print(a);", "2; done"},
			{head + "(function() {" + other + "('function g() {return 3;}');})(); print(g(), delete g);", "3 true; done"},
			{head + other + "('\\'use strict\\'; var a = 1; print(a);'); print(typeof a);", "1; undefined; done"},
			{head + other + "('let a = 1; function g() {return a;}'); print(typeof a, g());", "undefined 1; done"},
			{head + "let a; " + other + "('var a;');", "throws syntax"},
			{head + "const a = 1; (function() {" + other + "('function a() {}');})();", "throws syntax"},
			{head + "function f() {return " + other + "('eval(\\'var x = 7;\\'); x;');} print(f(), x);", "7 7; done"},
		})
	}
}

// What eval'd code declares where it is called.
func TestEvalDeclares(t *testing.T) {
	wantDid(t, []did{
		{"eval('var a = 1;'); print(a, delete a, typeof a);", "1 true undefined; done"},
		{"eval('print(a); var a = 1;'); print(a);", "undefined; 1; done"},
		{"eval('if (false) {var a;}'); print(a);", "undefined; done"},
		{"var a = 1; eval('var a;'); print(a, delete a);", "1 false; done"},
		{"var a = 1; eval('var a = 2;'); print(a, delete a);", "2 false; done"},
		{"eval('print(f()); function f() {return 1;}'); print(f(), delete f, typeof f);", "1; 1 true undefined; done"},
		{"eval('function f() {return 1;} function f() {return 2;}'); print(f());", "2; done"},
		{"eval('var f = 1; function f() {}'); print(f);", "1; done"},
		{"function f() {} eval('var f;'); print(typeof f); eval('function f() {return 3;}'); print(f(), delete f);", "function; 3 false; done"},
		{"eval('function print() {throw 7;}'); print(2);", "throws 7"},
		{"eval('var print;'); print(delete print);", "true; done"},
	})
}

func TestEvalDeclaresInFunctions(t *testing.T) {
	wantDid(t, []did{
		{"function f() {eval('var x = 1;'); print(x, delete x, typeof x);} f(); print(typeof x);", "1 true undefined; undefined; done"},
		{"function f() {function g() {return typeof x;} print(g()); eval('var x = 1;'); print(g());} f();", "undefined; number; done"},
		{"function f() {{let a; eval('var x = 1;');} return x;} print(f());", "1; done"},
		{"function f() {try {throw 1;} catch (e) {eval('var x = 2; var e = 3;'); print(e);} print(x, e);} f();", "3; 2 undefined; done"},
		{"function f(o) {with (o) {eval('var x = 2;'); print(x);} print(x, o.x);} f({x: 1}); f({});", "2; undefined 2; 2; 2 undefined; done"},
		{"var o = {x: 1}; with (o) eval('var x = 2; function y() {}'); print(x, o.x, typeof y, o.y);", "undefined 2 function undefined; done"},
		{"var o = {f: 1}; with (o) {eval('function f() {}'); print(f);} print(typeof f);", "1; function; done"},
		{"function f(a) {eval('var a;'); print(a, delete a);} f(1);", "1 false; done"},
		{"function f(a) {eval('var a = 2;'); print(a, delete a);} f(1);", "2 false; done"},
		{"function f(a) {eval('function a() {}'); print(typeof a, delete a);} f(1);", "function false; done"},
		{"function f() {eval('function g() {return 1;}'); print(g(), delete g, typeof g);} f(); print(typeof g);", "1 true undefined; undefined; done"},
		{"function f() {eval('var arguments = 1;'); print(arguments, delete arguments);} f();", "1 false; done"},
		{"(function f() {eval('var f = 1;'); print(f, delete f, typeof f);})();", "1 true function; done"},
		{"function f() {eval('var x = 1;'); eval('var x; print(x);'); delete x; eval('print(typeof x);');} f();", "1; undefined; done"},
		{"var f = function() {eval('var x = 1;'); return function() {return x;};}; print(f()());", "1; done"},
		{"function f() {(function() {eval('var x = 1;');})(); print(typeof x);} f();", "undefined; done"},
	})
}

func TestEvalWithinEval(t *testing.T) {
	wantDid(t, []did{
		{"function f() {eval(" + quoted("eval('var x = 1;'); print(x);") + "); print(x);} f(); print(typeof x);", "1; 1; undefined; done"},
		{"eval(" + quoted("eval('var x = 1;');") + "); print(x, delete x);", "1 true; done"},
		{"eval(" + quoted("let a = 1; eval('print(a); var b = a;');") + "); print(b, typeof a);", "1; 1 undefined; done"},
		{"eval(" + quoted("let a = 1; eval('let a = 2; print(a);'); print(a);") + ");", "2; 1; done"},
		{"eval(" + quoted("function f() {eval('var x = 1;'); return x;} print(f());") + "); print(typeof x);", "1; undefined; done"},
		{"eval(" + quoted("'use strict'; eval('var x = 1; print(x);'); print(typeof x);") + ");", "1; undefined; done"},
		{"eval(" + quoted("let a; eval('var a;');") + ");", "throws syntax"},
		{"eval(" + quoted("{let a; eval('var a;');}") + ");", "throws syntax"},
	})
}

// A let or const that lies between, or where eval'd code declares, is in its way.
func TestEvalHidden(t *testing.T) {
	wantThrown(t, "syntax",
		"let a = 1; eval('var a = 2;');", "const a = 1; eval('var a;');", "let a; eval('function a() {}');", "eval('var a;'); let a;",
		"{let a; eval('var a;');}", "{let a; {let b; eval('var a;');}}", "{const a = 1; eval('{var a;}');}", "{let a; with ({a: 1}) eval('var a;');}",
		"function f() {let a = 1; eval('var a = 2;');} f();", "function f() {const a = 1; eval('function a() {}');} f();", "function f() {{let a; eval('if (false) var a;');}} f();",
		"function f() {eval('var a;'); let a;} f();", "let a; {eval('var b; var a;');}", "let a; try {throw 1;} catch (e) {eval('var a;');}")
	wantDid(t, []did{
		{"function f() {let b = 1; try {eval('print(1); var a; var b;');} catch (e) {print(e);} print(typeof a);} f();", "syntax; undefined; done"},
		// Beyond where it declares, or in a function, nothing is.
		{"function f() {let a = 1; function g() {eval('var a = 2;'); return a;} return g() + a;} print(f());", "3; done"},
		{"let a = 1; function f() {eval('var a = 2;'); return a;} print(f(), a);", "2 1; done"},
		{"let a = 1; eval('(function() {var a = 2; print(a);})();'); print(a);", "2; 1; done"},
		{"let a = 1; eval('{let a = 2; print(a);} {function a() {}}'); print(a);", "2; 1; done"},
		// Names of other kinds are not.
		{"{function a() {} eval('var a = 1;'); print(a);} print(a);", "1; undefined; done"},
		{"try {throw 1;} catch (a) {eval('var a = 2;'); print(a);} print(a);", "2; undefined; done"},
		{"with ({a: 1}) {eval('var a = 2;'); print(a);} print(a);", "2; undefined; done"},
		{"(function a() {eval('var a = 1;'); print(a);})();", "1; done"},
		// Lets of eval'd code hide what is around.
		{"let a = 1; eval('let a = 2; print(a);'); print(a);", "2; 1; done"},
		{"function f(a) {let b = 1; eval('const a = 2; let b = 3; print(a, b);'); print(a, b);} f(0);", "2 3; 0 1; done"},
	})
}

func TestEvalLets(t *testing.T) {
	wantDid(t, []did{
		{"eval('let a = 1; const b = 2; print(a, b);'); print(typeof a, typeof b);", "1 2; undefined undefined; done"},
		{"eval('let a = 1; function f() {return a;}'); print(f(), typeof a);", "1 undefined; done"},
		{"eval('let a = 1; var b = a;'); print(b);", "1; done"},
		{"{let b = 2; eval('let a = 1; print(a + b);');}", "3; done"},
		{"let c = 3; eval('let d = c; print(d);');", "3; done"},
		{"function f(a) {{let b = 2; with ({c: 3}) return eval('let d = 4; a + b + c + d;');}} print(f(1));", "10; done"},
		{"function f(a) {{let b = 2; eval('let d = 4; function g() {return a + b + d;}');} return g();} print(f(1));", "7; done"},
		{"eval('let a;'); eval('let a; print(a);');", "undefined; done"},
		{"eval('f(); let a = 1; function f() {a;}');", "throws reference"},
		{"eval('print(a); let a = 1;');", "throws reference"},
		{"eval('const a = 1; a = 2;');", "throws type"},
		// Functions of eval'd code without lets are made where it stands, too.
		{"function f(a) {{let b = 2; eval('function g() {return a + b;}');} return g();} print(f(1));", "3; done"},
	})
}

func TestEvalStrict(t *testing.T) {
	wantDid(t, []did{
		{"'use strict'; eval('var a = 1; print(a);'); print(typeof a);", "1; undefined; done"},
		{"'use strict'; eval('function f() {return 1;} print(f());'); print(typeof f);", "1; undefined; done"},
		{"eval(" + quoted("'use strict'; var a = 1; print(a);") + "); print(typeof a);", "1; undefined; done"},
		{"function f(b) {'use strict'; eval('var a = b; b = 3; print(a);'); print(b, typeof a);} f(2);", "2; 3 undefined; done"},
		{"'use strict'; let a = 1; eval('var a = 2; print(a);'); print(a);", "2; 1; done"},
		{"let a = 1; eval(" + quoted("'use strict'; var a = 2; print(a);") + "); print(a);", "2; 1; done"},
		{"function f(a) {'use strict'; eval('var a; print(a);'); print(a);} f(1);", "undefined; 1; done"},
		{"'use strict'; eval('let a = 1; var b = a; function f() {return a + b;} print(f());'); print(typeof b);", "2; undefined; done"},
		{"'use strict'; print(eval('var a = 1; (function() {return a;});')());", "1; done"},
		{"'use strict'; {let b = 2; eval('var a = 1; print(a + b);');}", "3; done"},
		{"function f(a) {{let b = 2; with ({c: 3}) eval(" + quoted("'use strict'; let d = 4; print(a + b + c + d);") + ");}} f(1);", "10; done"},
		{"function f() {'use strict'; return function() {eval('var x = 1;'); return typeof x;};} print(f()());", "undefined; done"},
		{"var o = {x: 1}; with (o) eval(" + quoted("'use strict'; var x = 2; print(x);") + "); print(o.x, typeof x);", "2; 1 undefined; done"},
		// Strict code that is called is its own affair.
		{"function g() {eval('var x = 1;'); return x;} function f() {'use strict'; return g();} print(f());", "1; done"},
		{"eval('; \\'use strict\\'; a = 1;'); print(a);", "1; done"},
	})
	wantThrown(t, "reference", "'use strict'; eval('a = 1;');", "(function() {'use strict'; eval('a = 1;');})();", "eval("+quoted("'use strict'; a = 1;")+");",
		"var f = eval("+quoted("'use strict'; (function() {a = 1;});")+"); f();", "eval("+quoted("'use strict'; function f() {a = 1;} f();")+");", "eval("+quoted("'use strict'; eval('a = 1;');")+");")
}

func TestEvalValue(t *testing.T) {
	cases := []struct{ code, want string }{
		{"", "undefined"}, {";", "undefined"}, {"1;", "1"}, {"1; 2;", "2"}, {"1; undefined;", "undefined"}, {"var a = 1;", "undefined"}, {"1; var a = 2;", "1"}, {"1; let a = 2;", "1"}, {"1; ;", "1"}, {"1; function f() {}", "1"},
		{"1; if (true) 2;", "2"}, {"1; if (false) 2;", "1"}, {"1; if (false) 2; else 3;", "3"}, {"1; {2; {3;}}", "3"}, {"1; {}", "1"}, {"{let a = 4; a;}", "4"},
		{"var i = 0; while (i < 3) {i = i + 1;}", "3"}, {"1; while (false) 2;", "1"}, {"1; with ({a: 5}) a;", "5"},
		{"1; try {2;} catch (e) {3;}", "2"}, {"1; try {throw 5;} catch (e) {e;}", "5"}, {"1; try {2;} finally {3;}", "3"}, {"1; try {2; a_;} catch (e) {}", "2"}, {"1; try {a_;} catch (e) {}", "1"}, {"try {throw 1;} catch (e) {} finally {}", "undefined"},
		{"1; function f() {2;} var b = f();", "1"}, {"1; (function() {2;})();", "undefined"}, {"1; (function() {return 2;})();", "2"}, {"1; var b = eval('2;');", "1"}, {"eval('2;');", "2"}, {"1; eval('var b = 2;');", "undefined"}, {"1; var b = (0 || eval)('2;');", "1"},
		{"'a' + 1;", "a1"}, {"({});", "object"}, {"a_ = 7;", "7"}, {"print;", "function"}, {"'use strict';", "use strict"}, {"'use strict'; 5;", "5"}, {"let a = 1; a + 1;", "2"},
	}
	for _, c := range cases {
		q := quoted(c.code)
		wantShown(t, c.want, "eval("+q+")", "(0 || eval)("+q+")", "(function() {return eval("+q+");})()", "eval("+quoted("eval("+q+");")+")")
	}
	wantDid(t, []did{
		{"function f() {5;} print(eval('1; var b = f();'));", "1; done"},
		{"var f; print(eval('f = function() {5;}; 1; var b = f();')); print(f());", "1; undefined; done"},
		{"print(eval('1;'), eval(';'));", "1 undefined; done"},
	})
}

func TestEvalThrows(t *testing.T) {
	wantDid(t, []did{
		{"eval('throw 7;');", "throws 7"},
		{"try {eval('1; throw 7;');} catch (e) {print(e);}", "7; done"},
		{"eval('a;');", "throws reference"},
		{"eval('var a = 1; throw 2;');", "throws 2"},
		{"try {eval('var a = 1; throw 2;');} catch (e) {print(e, a);}", "2 1; done"},
		{"var o = {}; try {eval('throw o;');} catch (e) {print(e === o);}", "true; done"},
		{"print(eval('throw 1;'));", "throws 1"},
	})
}

// The longest text that a program can make can be eval'd.
func TestEvalLong(t *testing.T) {
	wantDid(t, []did{
		{"eval('" + strings.Repeat(";", 491) + "print(1);');", "1; done"},
		{"eval('" + strings.Repeat(" ", 500) + "'); print(2);", "2; done"},
	})
}
