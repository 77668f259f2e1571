package run_test

import (
	"strings"
	"testing"
)

// Promises 6.2 and 6.3.

func TestGlobalObject(t *testing.T) {
	wantDid(t, []did{
		{"print(typeof print, typeof eval);", "function function; done"},
		{"print(print === eval, print === print);", "false true; done"},
		// Neither is fixed, declared or not.
		{"print(delete print); print(1);", "true; throws reference"},
		{"print(delete eval, typeof eval);", "true undefined; done"},
		{"var print; print(delete print);", "true; done"},
		{"var print; print(typeof print);", "function; done"},
		{"function eval() {} print(delete eval, typeof eval);", "true undefined; done"},
		{"function print() {throw 'mine';} print(1);", "throws mine"},
		{"var print = 1; print(2);", "throws type"},
		{"let p = print; {let print = 5; p(print);}", "5; done"},
		{"let print = 1; print(1);", "throws type"},
	})
}

func TestProgramDeclares(t *testing.T) {
	wantDid(t, []did{
		{"print(a); var a = 1; print(a);", "undefined; 1; done"},
		{"if (false) var a = 1; print(a);", "undefined; done"},
		{"print(typeof a); {{while (false) var a;}}", "undefined; done"},
		{"function f() {var a = 1;} f(); print(typeof a);", "undefined; done"},
		{"var a; print(delete a, a);", "false undefined; done"},
		{"var a = 1; print(delete a, a);", "false 1; done"},
		{"print(f()); function f() {return 1;}", "1; done"},
		{"print(f()); function f() {return 1;} function f() {return 2;}", "2; done"},
		{"function f() {} print(delete f, typeof f);", "false function; done"},
		{"var f; function f() {} print(typeof f);", "function; done"},
		{"var f = 1; function f() {} print(typeof f);", "number; done"},
		{"f = 1; function f() {} print(f);", "1; done"},
	})
}

func TestProgramLets(t *testing.T) {
	wantDid(t, []did{
		{"let a = 1; function f() {return a;} print(f());", "1; done"},
		{"const a = 1; function f() {return a;} print(f());", "1; done"},
		{"let a; print(a); a = 2; print(a);", "undefined; 2; done"},
		{"let a = 1; print(delete a, a);", "false 1; done"},
		{"let b = 1; var a = b; print(a);", "1; done"},
		{"f = 1; let a = f; print(a, delete f, a);", "1 true 1; done"},
	})
	wantThrown(t, "reference",
		"a; let a;", "a; const a = 1;", "typeof a; let a;", "a = 1; let a;", "a = 1; const a = 2;", "let a = a;",
		"f(); let a = 1; function f() {return a;}", "f(); let a = 1; function f() {a = 2;}", "f(); const a = 1; function f() {eval('a;');}")
	wantThrown(t, "type", "const a = 1; a = 1;", "const a = 1; function f() {a = 2;} f();")
}

const count = "function f(n) {if (n === 1) return 'end'; return f(n - 1);} "

func TestDeepCalls(t *testing.T) {
	wantDid(t, []did{
		{count + "print(f(40));", "end; done"},
		{count + "print(f(41));", "throws range"},
		{"var n = 0; function f() {n = n + 1; f();} try {f();} catch (e) {print(e, n);}", "range 40; done"},
		{"var g = function f(n) {return n === 1 || f(n - 1);}; print(g(40)); g(41);", "true; throws range"},
		// They are undone however they end.
		{count + "try {f(41);} catch (e) {print(e);} print(f(40), f(40));", "range; end end; done"},
		{count + "function g(n) {try {return f(n);} catch (e) {return e;}} print(g(39), g(40), g(39));", "end range end; done"},
		{"function f() {} var i = 0; while (i < 100) {f(); i = i + 1;}", "done"},
		{"function f() {throw 1;} var i = 0; while (i < 100) {try {f();} catch (e) {} i = i + 1;}", "done"},
		{"function f() {while (true) {try {return 1;} finally {}}} var i = 0; while (i < 100) {f(); i = i + 1;}", "done"},
		{"var i = 0; while (i < 100) {try {eval('(');} catch (e) {} eval('1;'); i = i + 1;}", "done"},
	})
}

func TestDeepEval(t *testing.T) {
	deep := func(last string) string {
		return "function f(n) {if (n === 1) return " + last + "; return f(n - 1);} "
	}
	wantDid(t, []did{
		{deep("eval('7;')") + "print(f(39));", "7; done"},
		{deep("eval('7;')") + "print(f(40));", "throws range"},
		{deep("(0 || eval)('7;')") + "print(f(39)); f(40);", "7; throws range"},
		{deep("eval('(')") + "try {f(39);} catch (e) {print(e);} f(40);", "syntax; throws range"},
		{deep("eval('f(1);')") + "f(38);", "throws range"},
		// What does nothing as a call is none.
		{deep("eval(7)") + "print(f(40));", "7; done"},
		{deep("eval()") + "print(f(40));", "undefined; done"},
		{deep("print('deep')") + "f(40);", "deep; done"},
		{deep("n()") + "f(40);", "throws type"},
		// Arguments are ahead of the call.
		{deep("f(print('deep'))") + "f(40);", "deep; throws range"},
		// A function and an eval, by turns: 20 and 19, then 20 and 20.
		{"function f(n) {if (n === 1) return 'end'; return eval('f(n - 1);');} print(f(20)); f(21);", "end; throws range"},
	})
}

func TestParameters(t *testing.T) {
	wantDid(t, []did{
		{"function f(a, b) {print(a, b);} f(); f(1); f(1, 2); f(1, 2, 3);", "undefined undefined; 1 undefined; 1 2; 1 2; done"},
		{"function f(a, b, a) {print(a, b);} f(1, 2, 3); f(1, 2); f(1);", "3 2; undefined 2; undefined undefined; done"},
		{"(function(a, a, a) {print(a);})(1, 2);", "undefined; done"},
		{"function f(a, b, c, d, e, g, h, i) {print(a, i);} f(1, 2, 3, 4, 5, 6, 7, 8);", "1 8; done"},
		{"function f(a) {a = a + 1; return a;} var a = 1; print(f(a), a);", "2 1; done"},
		{"function f(a) {print(delete a, a);} f(1);", "false 1; done"},
		{"function f(f) {print(f);} f(1);", "1; done"},
		{"function f(eval, print) {return eval;} print(f(1));", "1; done"},
	})
}

func TestArguments(t *testing.T) {
	wantDid(t, []did{
		{"function f() {print(arguments.length);} f(); f(undefined); f(1, 2, 3, 4, 5, 6, 7, 8);", "0; 1; 8; done"},
		{"function f() {print(arguments.a0, arguments.a1, arguments.a2);} f(7, 'x');", "7 x undefined; done"},
		{"function f(a, b) {print(arguments.length, arguments.a0, arguments.a2);} f(7, 8, 9);", "3 7 9; done"},
		{"(function() {print(arguments.a7, arguments.a8);})(1, 2, 3, 4, 5, 6, 7, 8);", "8 undefined; done"},
		{"function f() {print(typeof arguments, arguments === arguments);} f();", "object true; done"},
		{"function f() {return arguments;} print(f() === f());", "false; done"},
		// Its properties are its own, and can be cut.
		{"function f(a) {a = 5; print(arguments.a0); arguments.a0 = 6; print(a);} f(1);", "1; 5; done"},
		{"function f() {print(delete arguments.a0, arguments.a0, delete arguments.length, arguments.length);} f(1);", "true undefined true undefined; done"},
		// The name is a plain one.
		{"function f() {arguments = 3; print(arguments, delete arguments);} f();", "3 false; done"},
		{"function f() {return eval('arguments.length;');} print(f(1, 2));", "2; done"},
		{"function f() {return (function() {return arguments.length;})();} print(f(1, 2));", "0; done"},
		{"function f() {'use strict'; return arguments.a0;} print(f(4));", "4; done"},
	})
}

func TestNoArguments(t *testing.T) {
	wantDid(t, []did{
		{"print(typeof arguments);", "undefined; done"},
		{"{print(typeof arguments);}", "undefined; done"},
		{"function f(arguments) {print(arguments);} f(3); f();", "3; undefined; done"},
		{"function f(a, arguments) {print(arguments);} f(3);", "undefined; done"},
		{"function f() {print(typeof arguments); function arguments() {}} f(3);", "function; done"},
		{"function f() {let arguments; print(arguments);} f(3);", "undefined; done"},
		{"function f() {const arguments = 1; print(arguments);} f(3);", "1; done"},
		{"function f() {typeof arguments; let arguments;} f(3);", "throws reference"},
		// A var, or what an inner block or function has, leaves it there.
		{"function f() {var arguments; print(arguments.a0);} f(3);", "3; done"},
		{"function f() {print(arguments.a0); var arguments = 4; print(arguments);} f(3);", "3; 4; done"},
		{"function f() {{let arguments = 1;} {function arguments() {}} print(arguments.a0);} f(3);", "3; done"},
		{"(function arguments() {print(typeof arguments);})();", "object; done"},
		{"function arguments() {return typeof arguments;} print(arguments());", "object; done"},
	})
	wantThrown(t, "reference", "arguments;", "eval('arguments;');")
}

func TestOwnName(t *testing.T) {
	wantDid(t, []did{
		{"var g = function f() {return typeof f;}; print(g(), typeof f);", "function undefined; done"},
		{"var g = function f() {return f;}; print(g() === g);", "true; done"},
		{"var f = 1; (function f() {print(typeof f);})(); print(f);", "function; 1; done"},
		{"(function f() {print(f = 1, typeof f);})();", "1 function; done"},
		{"(function f() {'use strict'; f = 1;})();", "throws type"},
		{"'use strict'; (function f() {f = 1;})();", "throws type"},
		{"(function f() {'use strict'; f = print('first');})();", "first; throws type"},
		{"(function f() {(function() {'use strict'; f = 1;})();})();", "throws type"},
		{"(function f() {print(delete f, typeof f);})();", "false function; done"},
		{"(function f(f) {print(f);})(1);", "1; done"},
		{"(function f() {var f; print(f);})();", "undefined; done"},
		{"(function f() {var f = 2; print(f);})();", "2; done"},
		{"(function f() {let f = 3; print(f);})();", "3; done"},
		{"(function f() {print(f()); function f() {return 4;}})();", "4; done"},
		{"(function f() {eval('f = 1;'); print(typeof f);})();", "function; done"},
		{"function g(a) {{let b = 2; with ({c: 3}) return (function f() {return a + b + c;})();}} print(g(1));", "6; done"},
		// A function that a statement declares has none.
		{"function f() {f = 1;} f(); print(f);", "1; done"},
	})
}

func TestFunctionDeclares(t *testing.T) {
	wantDid(t, []did{
		{"function f() {print(a); var a = 1; print(a);} f();", "undefined; 1; done"},
		{"function f(a) {var a; print(a); var a = 2; print(a);} f(1);", "1; 2; done"},
		{"function f() {if (false) {var a;} print(a);} f();", "undefined; done"},
		{"function f(a) {print(typeof a); function a() {}} f(1);", "function; done"},
		{"function f() {print(typeof a); var a = 1; print(a); function a() {}} f();", "function; 1; done"},
		{"function f() {print(g()); function g() {return 1;} function g() {return 2;}} f();", "2; done"},
		{"function f() {let a = 1; return g(); function g() {return a;}} print(f());", "1; done"},
		{"function f(a) {var b; let c; function d() {} print(delete a, delete b, delete c, delete d);} f();", "false false false false; done"},
		{"var a = 1; function f() {a = 2; var a;} f(); print(a);", "1; done"},
		{"function f() {f = 1; var f;} f(); print(typeof f);", "function; done"},
	})
	wantThrown(t, "reference", "(function() {a; let a;})();", "(function() {g(); let a = 1; function g() {a;}})();", "(function() {a = 1; const a = 2;})();")
	wantThrown(t, "type", "(function() {const a = 2; a = 1;})();")
}

func TestReturned(t *testing.T) {
	wantDid(t, []did{
		{"function f() {} print(f());", "undefined; done"},
		{"function f() {1;} print(f());", "undefined; done"},
		{"function f() {return;} print(f());", "undefined; done"},
		{"function f() {return 1; print(2);} print(f());", "1; done"},
		{"function f() {while (true) {{if (true) return 1;}}} print(f());", "1; done"},
		{"function f() {with ({a: 3}) {return a;}} print(f());", "3; done"},
		{"function f() {if (false) ; else return 4; return 5;} print(f());", "4; done"},
		{"function f() {return {a: 1};} print(f().a);", "1; done"},
		{"function f() {return function() {return 6;};} print(f()(), f() === f());", "6 false; done"},
	})
}

func TestClosures(t *testing.T) {
	wantDid(t, []did{
		{"function make() {var n = 0; return function() {n = n + 1; return n;};} var a = make(); var b = make(); print(a(), a(), b(), a());", "1 2 1 3; done"},
		{"var x = 1; function f() {return x;} function g() {var x = 2; return f();} print(g());", "1; done"},
		{"var x = 1; var f; with ({x: 2}) f = function() {return x;}; print(f());", "2; done"},
		{"var f; try {throw 3;} catch (e) {f = function() {return e;};} print(f(), typeof e);", "3 undefined; done"},
		{"var f; var g; var i = 0; while (i < 2) {let x = i; if (i === 0) f = function() {return x;}; g = function() {return x;}; i = i + 1;} print(f(), g());", "0 1; done"},
		{"var f; var g; var i = 0; while (i < 2) {var x = i; if (i === 0) f = function() {return x;}; g = function() {return x;}; i = i + 1;} print(f(), g());", "1 1; done"},
		{"var f; var i = 0; while (i < 2) {function h() {return i;} if (f) print(f === h, f()); f = h; i = i + 1;} print(f());", "false 1; 2; done"},
		{"function f(a) {function g() {return a;} a = 2; return g;} print(f(1)());", "2; done"},
	})
}

func TestStrictFunctions(t *testing.T) {
	wantThrown(t, "reference",
		"'use strict'; a = 1;", "('use strict'); a = 1;", "(function() {'use strict'; a = 1;})();", "function f() {'use strict'; a = 1;} f();",
		"'use strict'; function f() {a = 1;} f();", "function f() {'use strict'; return function() {a = 1;};} f()();", "function f() {'use strict'; {function g() {a = 1;} g();}} f();",
		"function f() {'use strict'; g(); function g() {a = 1;}} f();")
	wantDid(t, []did{
		{"a = 1; print(a);", "1; done"},
		{"function f() {a = 1;} f(); print(a);", "1; done"},
		{"; 'use strict'; a = 1; print(a);", "1; done"},
		{"{'use strict';} a = 1; print(a);", "1; done"},
		{"function f() {'use strict';} f(); a = 1; print(a);", "1; done"},
		{"function g() {a = 1;} function f() {'use strict'; g();} f(); print(a);", "1; done"},
		{"function f() {'use strict'; var a; a = 1; return a;} print(f());", "1; done"},
		{"var a; function f() {'use strict'; a = 1;} f(); print(a);", "1; done"},
	})
}

// An object is one function or another, whatever else is made.
func TestManyFunctions(t *testing.T) {
	var b strings.Builder
	for _, c := range "abcdefghij" {
		b.WriteString("function " + string(c) + "() {return '" + string(c) + "';} ")
	}
	wantDid(t, []did{{b.String() + "print(j() + a() + e() + (function() {return 'x';})() + b());", "jaexb; done"}})
}
