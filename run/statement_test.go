package run_test

import "testing"

// Promise 6.4.

func TestVar(t *testing.T) {
	wantDid(t, []did{
		{"var a = 1; var a; print(a); var a = 2; print(a);", "1; 2; done"},
		{"var o = {x: 1}; with (o) {var x = 2;} print(x, o.x);", "undefined 2; done"},
		{"var o = {}; with (o) {var x = 2;} print(x, o.x);", "2 undefined; done"},
		{"function f(o) {with (o) {var x = 2;} print(x, o.x);} f({x: 1}); f({});", "undefined 2; 2 undefined; done"},
		{"with ({x: 1}) {var x; print(x);}", "1; done"},
		// Found ahead of the value, assigned behind it.
		{"var o = {x: 1}; with (o) {var x = eval('delete o.x; 2;');} print(x, o.x);", "undefined 2; done"},
		{"var o = {}; with (o) {var x = (o.x = 1) + 1;} print(x, o.x);", "2 1; done"},
		{"try {throw 1;} catch (e) {var e = 2; print(e);} print(e);", "2; undefined; done"},
		{"function f() {eval('var x = 1; var y = delete x; var x = 5;'); print(typeof x);} f(); print(x);", "number; 5; done"},
		{"(function f() {eval('var f = 1;'); print(f);})();", "1; done"},
	})
	wantThrown(t, "range", "var a = 1000000000 + 1;")
	wantThrown(t, "reference", "var a = b;", "'use strict'; var print = (0 || eval)('delete print; 2;');")
}

func TestLet(t *testing.T) {
	wantDid(t, []did{
		{"{let a; print(a); a = 1; print(a);}", "undefined; 1; done"},
		{"{let a = 1; {let a = 2; print(a);} print(a);}", "2; 1; done"},
		{"let a = function() {return typeof a;}; print(a());", "function; done"},
		{"var i = 0; while (i < 2) {try {a;} catch (e) {print(e);} let a = i; print(a); i = i + 1;}", "reference; 0; reference; 1; done"},
		{"var i = 0; while (i < 2) {let a; print(a); a = i; i = i + 1;}", "undefined; undefined; done"},
		{"function f() {let a; print(a); a = 1;} f(); f();", "undefined; undefined; done"},
		{"try {let a = b;} catch (e) {print(e, typeof a);}", "reference undefined; done"},
		{"const a = {}; a.b = 1; print(a.b);", "1; done"},
		// In the scope where it stands, whatever lies in between was made for.
		{"with ({a: 1}) {let a = 2; print(a);}", "2; done"},
		{"var a = 1; {let a = 2;} print(a);", "1; done"},
	})
	wantThrown(t, "reference", "{let a = a;}", "{const a = a;}", "var a = 1; {print(a); let a;}", "{typeof a; const a = 1;}", "{let b = a; let a;}", "{f(); let a; function f() {a;}}")
	wantThrown(t, "type", "{const a = 1; a = 2;}", "{const a = 1; {a = 2;}}", "{const a = 1; eval('a = 2;');}", "with ({}) {const a = 1; a = 2;}")
}

func TestBlock(t *testing.T) {
	wantDid(t, []did{
		{"{let a = 1;} print(typeof a);", "undefined; done"},
		{"{var a = 1;} print(a);", "1; done"},
		{"{print(f()); function f() {return 1;}} print(typeof f);", "1; undefined; done"},
		{"function f() {return 1;} {function f() {return 2;} print(f());} print(f());", "2; 1; done"},
		{"{f = 3; function f() {} print(f, delete f);} print(typeof f);", "3 false; undefined; done"},
		{"{let a = 1; print(f()); function f() {return a;}}", "1; done"},
		{"{} {;} {{}} print(1);", "1; done"},
		{"{print(1); {print(2);} print(3);}", "1; 2; 3; done"},
	})
}

func TestIf(t *testing.T) {
	yes, no := []string{"true", "1", "0 - 1", "'a'", "'0'", "{}", "print", "function() {}"}, []string{"false", "0", "''", "null", "undefined"}
	for _, v := range yes {
		wantDid(t, []did{{"if (" + v + ") print(1); else print(2);", "1; done"}, {"if (" + v + ") print(1); print(3);", "1; 3; done"}})
	}
	for _, v := range no {
		wantDid(t, []did{{"if (" + v + ") print(1); else print(2);", "2; done"}, {"if (" + v + ") print(1); print(3);", "3; done"}})
	}
	wantDid(t, []did{
		{"if (1) if (0) print(1); else print(2);", "2; done"},
		{"if (a) print(1); else print(2);", "throws reference"},
	})
}

func TestWhile(t *testing.T) {
	wantDid(t, []did{
		{"var i = 0; while (i < 3) {print(i); i = i + 1;}", "0; 1; 2; done"},
		{"while (false) print(1); print(2);", "2; done"},
		{"var i = 3; while (i) i = i - 1; print(i);", "0; done"},
		{"while (a) ;", "throws reference"},
		{"var i = 0; while (true) {i = i + 1; if (i === 3) throw i;}", "throws 3"},
	})
}

func TestWith(t *testing.T) {
	wantDid(t, []did{
		{"var o = {a: 1}; with (o) {a = 2; b = 3;} print(o.a, o.b, b);", "2 undefined 3; done"},
		{"var a = 1; with ({a: 2}) print(a); print(a);", "2; 1; done"},
		{"var o = {}; var a = 1; with (o) {print(a); o.a = 2; print(a); delete o.a; print(a);}", "1; 2; 1; done"},
		{"var a = 1; with ({a: 2}) {print(delete a, a);}", "true 1; done"},
		{"with ({a: 1}) with ({b: 2}) print(a, b);", "1 2; done"},
		{"with ({a: 1}) with ({a: 2}) print(a);", "2; done"},
		{"print.x = 5; with (print) print(x);", "5; done"},
		{"with (function() {}) print(typeof length);", "undefined; done"},
		{"let a = 1; with ({a: undefined}) print(a);", "undefined; done"},
		{"var o = {a: 1}; var f; with (o) f = function() {return a;}; o.a = 2; print(f());", "2; done"},
		{"function f(a) {with (arguments) {a0 = 5; print(a, length);} print(arguments.a0);} f(1);", "1 1; 5; done"},
		{"with ({print: function(a) {throw a;}}) print(4);", "throws 4"},
	})
	wantThrown(t, "type", "with (1) print(1);", "with ('a') print(1);", "with (true) print(1);", "with (null) print(1);", "with (undefined) print(1);")
	wantThrown(t, "reference", "with (a) print(1);", "with ({}) print(a);")
}

func TestTry(t *testing.T) {
	wantDid(t, []did{
		{"try {print(1);} catch (e) {print(2);} print(3);", "1; 3; done"},
		{"try {print(1);} finally {print(2);} print(3);", "1; 2; 3; done"},
		{"try {throw 1; print(0);} catch (e) {print(e);} print(3);", "1; 3; done"},
		{"try {throw 1;} finally {print(2);} print(3);", "2; throws 1"},
		{"try {throw 1;} catch (e) {print(e);} finally {print(2);} print(3);", "1; 2; 3; done"},
		{"try {throw 1;} catch (e) {throw 2;} finally {print(3);}", "3; throws 2"},
		{"try {throw 1;} catch (e) {throw 2;} finally {throw 3;}", "throws 3"},
		{"try {throw 1;} finally {throw 3;}", "throws 3"},
		{"try {} finally {throw 3;}", "throws 3"},
		{"try {try {throw 1;} finally {print(2);}} catch (e) {print(e);}", "2; 1; done"},
		{"try {try {throw 1;} catch (e) {throw e + 1;}} catch (e) {print(e);}", "2; done"},
		{"try {throw 1;} catch (a) {try {throw 2;} catch (b) {print(a, b);}}", "1 2; done"},
		{"function f() {throw 1;} try {f();} catch (e) {print(e);}", "1; done"},
		{"var o = {}; try {throw o;} catch (e) {print(e === o);}", "true; done"},
		{"try {throw undefined;} catch (e) {print(e);}", "undefined; done"},
		{"try {a;} catch (e) {print(e === 'reference', typeof e);}", "true string; done"},
	})
}

func TestTryReturns(t *testing.T) {
	wantDid(t, []did{
		{"function f() {try {return 1;} finally {print('f');}} print(f());", "f; 1; done"},
		{"function f() {try {return 1;} finally {return 2;}} print(f());", "2; done"},
		{"function f() {try {return 1;} finally {return;}} print(f());", "undefined; done"},
		{"function f() {try {throw 1;} finally {return 2;}} print(f());", "2; done"},
		{"function f() {try {throw 1;} catch (e) {return e;} finally {print('f');}} print(f());", "f; 1; done"},
		{"function f() {try {throw 1;} catch (e) {return e;} finally {return 2;}} print(f());", "2; done"},
		{"function f() {try {throw 1;} catch (e) {throw 5;} finally {return 2;}} print(f());", "2; done"},
		{"function f() {try {return 1;} catch (e) {return 2;}} print(f());", "1; done"},
		{"function f() {try {return 1;} finally {throw 2;}} f();", "throws 2"},
		{"function f() {try {return a;} catch (e) {return e;}} print(f());", "reference; done"},
		{"function f() {var a = 1; try {return a;} finally {a = 2;}} print(f());", "1; done"},
		{"function f() {try {return print('v');} finally {print('f');}} print(f());", "v; f; undefined; done"},
		{"function f() {while (true) try {return 1;} finally {print('f');}} print(f());", "f; 1; done"},
		{"function f() {try {try {return 1;} finally {throw 2;}} catch (e) {return e + 1;}} print(f());", "3; done"},
		{"function f() {try {try {throw 1;} finally {return 2;}} catch (e) {return 3;}} print(f());", "2; done"},
	})
}

func TestCatch(t *testing.T) {
	wantDid(t, []did{
		{"try {throw 1;} catch (e) {print(e);} print(typeof e);", "1; undefined; done"},
		{"var e = 5; try {throw 1;} catch (e) {e = 2; print(e);} print(e);", "2; 5; done"},
		{"try {throw 1;} catch (e) {print(delete e, e);}", "false 1; done"},
		{"try {throw 1;} catch (e) {{let e = 3; print(e);} print(e);}", "3; 1; done"},
		{"try {throw 1;} catch (e) {let a = e; print(a);} print(typeof a);", "1; undefined; done"},
		{"var e = 5; try {throw 1;} catch (e) {} finally {print(e);}", "5; done"},
		{"try {let a = 1; throw a;} catch (e) {print(e, typeof a);}", "1 undefined; done"},
		{"try {throw 1;} catch (print) {} print(2);", "2; done"},
	})
}
