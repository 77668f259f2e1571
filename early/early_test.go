package early_test

import (
	"strings"
	"testing"

	"sloppyscope/api"
	"sloppyscope/early"
	"sloppyscope/plain"
	"sloppyscope/tree"
)

// Promise 4.1.

// parse is the program of a text that has no fault.
func parse(t *testing.T, text string) *api.Node {
	t.Helper()
	n, err := tree.Parse(text)
	if err != nil || n == nil {
		e, at := plain.Place(err)
		t.Fatalf("%.200q: error %d at %d", text, e, at)
	}
	return n
}

// wantError: Check's answer, which never has a place.
func wantError(t *testing.T, text string, n *api.Node, strict, inside bool, want api.Errno) {
	t.Helper()
	err := early.Check(n, strict, inside)
	if want == api.OK && err == nil || want != api.OK && err == error(want) {
		return
	}
	e, at := plain.Place(err)
	t.Errorf("%.300s (strict %v, inside %v): error %d at %d, want error %d", text, strict, inside, e, at, want)
}

// wanted is a text, and what is wrong with it in code that is not strict, and in strict code.
type wanted struct {
	text          string
	loose, strict api.Errno
}

// wantChecks: what is wrong is the same whether code is strict by the argument, by the program's own directive, or by that of a function around it.
func wantChecks(t *testing.T, cases []wanted) {
	t.Helper()
	for _, c := range cases {
		n := parse(t, c.text)
		wantError(t, c.text, n, false, true, c.loose)
		wantError(t, c.text, n, true, true, c.strict)
		for _, s := range []string{"'use strict'; " + c.text, "('use strict'); " + c.text} {
			wantError(t, s, parse(t, s), false, true, c.strict)
		}
		for _, around := range [][2]string{{"function outer_one() {", "}"}, {"(function() {", "});"}} {
			f := around[0] + c.text + around[1]
			wantError(t, f, parse(t, f), false, false, c.loose)
			wantError(t, f, parse(t, f), true, false, c.strict)
			f = around[0] + "'use strict'; " + c.text + around[1]
			wantError(t, f, parse(t, f), false, false, c.strict)
		}
	}
}

// both are texts of which the same is wrong in all code.
func both(want api.Errno, texts ...string) (l []wanted) {
	for _, s := range texts {
		l = append(l, wanted{s, want, want})
	}
	return l
}

// inStrict are texts of which something is wrong in strict code alone.
func inStrict(want api.Errno, texts ...string) (l []wanted) {
	for _, s := range texts {
		l = append(l, wanted{s, api.OK, want})
	}
	return l
}

func TestNothing(t *testing.T) {
	for _, strict := range []bool{false, true} {
		for _, inside := range []bool{false, true} {
			wantError(t, "nil", nil, strict, inside, api.OK)
			for _, s := range []string{"", ";", "a;", "{}", "var a; let b; const c = 1; function f() {}", "print(a + 1);"} {
				wantError(t, s, parse(t, s), strict, inside, api.OK)
			}
		}
	}
}

// A program and a function's Block.
func TestTwiceInBodies(t *testing.T) {
	wantChecks(t, both(api.ErrTwice,
		"let a; let a;",
		"let a; const a = 1;",
		"const a = 1; let a;",
		"const a = 1; const a = 1;",
		"let a; let b; let c; let a;",
		"let a; function a() {}",
		"function a() {} let a;",
		"const a = 1; function a() {}",
		"let a; var a;",
		"var a; let a;",
		"var a; const a = 1;",
		"let a; {var a;}",
		"if (x) var a; let a;",
		"let a; while (x) {{if (x) ; else var a;}}",
		"try {} catch (e) {var a;} const a = 1;",
		"let a; try {} finally {var a;}",
		"var eval_; let eval_;",
	))
	wantChecks(t, both(api.OK,
		"var a; var a;",
		"function a() {} function a() {}",
		"function a() {} var a;",
		"var a; function a() {} {var a;}",
		"let a; let b; const c = 1; var d; function e() {}",
		"let a; {let a;}",
		"let a; {function a() {}}",
		"var a; {let a;}",
		"let a; function f() {var a;}",
		"let a; (function() {var a;});",
		"let a; (function a() {});",
		"let a; try {} catch (a) {}",
		"let a; x = {a: 1}; a.a = 1;",
		"let a = a;",
	))
}

// What stands in a Block that is no function's.
func TestTwiceInBlocks(t *testing.T) {
	wrong := []string{
		"let a; let a;",
		"const a = 1; let a;",
		"let a; function a() {}",
		"function a() {} const a = 1;",
		"let a; var a;",
		"var a; const a = 1;",
		"let a; {var a;}",
		"let a; if (x) while (x) var a;",
		// What may stand in a body.
		"function a() {} function a() {}",
		"function a() {} ; function b() {} {} function a() {}",
		"function a() {} var a;",
		"var a; function a() {}",
		"function a() {} {var a;}",
		"{{function a() {} var a;}}",
	}
	right := []string{
		"let a; const b = 1; var c; function d() {}",
		"var a; var a;",
		"{let a;} let a;",
		"{let a;} {let a;}",
		"let a; {let a;}",
		"{function a() {}} function a() {}",
		"function a() {} {let a;}",
		"{let a;} var a;",
		"{function a() {}} var a;",
		"function a() {} function b() {var a;}",
		"function a() {var a;} (function() {var a;});",
		"let a; (function() {var a; function a() {} function a() {}});",
	}
	for _, around := range []string{"{#}", "if (x) {#}", "if (x) ; else {#}", "while (x) {#}", "try {#} finally {}", "try {#} catch (e) {}", "try {} catch (e) {#}", "try {} finally {#}", "function f() {{#}}", "(function() {{#}});", "{{#}}"} {
		for _, s := range wrong {
			wantChecks(t, both(api.ErrTwice, strings.Replace(around, "#", s, 1)))
		}
		for _, s := range right {
			wantChecks(t, both(api.OK, strings.Replace(around, "#", s, 1)))
		}
	}
	wantChecks(t, []wanted{{"with (x) {function a() {} var a;}", api.ErrTwice, api.ErrArg}})
	// A program may have both on its own.
	wantChecks(t, both(api.OK, "var a; {function a() {}}", "function a() {} {function a() {}}", "let a; {let a; {function a() {}}}"))
}

// A function's Block is a body, whatever stands around the function.
func TestFunctionsBlockIsBody(t *testing.T) {
	for _, inner := range []string{"function a() {} function a() {}", "function a() {} var a;", "var a; function a() {} {var a;}"} {
		for _, s := range []string{"function f() {#}", "{function f() {#}}", "(function() {#});", "{(function f() {#});}", "if (x) {function f() {#}}", "function f() {{(function() {#});}}"} {
			wantChecks(t, both(api.OK, strings.Replace(s, "#", inner, 1)))
			wantChecks(t, both(api.ErrTwice, strings.Replace(s, "#", "{"+inner+"}", 1)))
			wantChecks(t, both(api.ErrTwice, strings.Replace(s, "#", inner+" let a;", 1)))
		}
	}
}

// functions are a Func and a Lambda, of what stands behind the word function.
func functions(behind string) []string {
	return []string{"function " + behind, "x = function " + behind + ";", "{function " + behind + "}", "print((function " + behind + ")());"}
}

func TestFunctionNames(t *testing.T) {
	for _, name := range []string{"eval", "arguments"} {
		for _, s := range functions(name + "() {}") {
			wantChecks(t, inStrict(api.ErrName, s))
		}
		for _, s := range functions(name + "() {'use strict';}") {
			wantChecks(t, both(api.ErrName, s))
		}
		// Only what is strict from its beginning on, and not what is strict within.
		for _, s := range functions(name + "() {; 'use strict';}") {
			wantChecks(t, inStrict(api.ErrName, s))
		}
		for _, s := range functions(name + "() {function g() {'use strict';}}") {
			wantChecks(t, inStrict(api.ErrName, s))
		}
		wantChecks(t, inStrict(api.ErrName, "function f() {'use strict';} function "+name+"() {}"))
	}
	for _, name := range []string{"f", "print", "eval_", "evals", "argument", "a"} {
		for _, s := range functions(name + "() {'use strict';}") {
			wantChecks(t, both(api.OK, s))
		}
	}
	wantChecks(t, both(api.OK, "(function() {'use strict';});"))
}

func TestParameters(t *testing.T) {
	for _, c := range []struct {
		params string
		strict api.Errno
	}{
		{"", api.OK},
		{"a", api.OK},
		{"a, b, c, d, e, g, h, i", api.OK},
		{"eval", api.ErrName},
		{"arguments", api.ErrName},
		{"a, eval", api.ErrName},
		{"a, b, arguments", api.ErrName},
		{"a, a", api.ErrTwice},
		{"a, b, a", api.ErrTwice},
		{"b, a, a", api.ErrTwice},
		{"a, b, c, d, e, g, h, a", api.ErrTwice},
		// Parameter by parameter: the first one that is wrong.
		{"eval, eval", api.ErrName},
		{"arguments, arguments", api.ErrName},
		{"eval, a, a", api.ErrName},
		{"a, eval, a", api.ErrName},
		{"a, a, eval", api.ErrTwice},
		{"a, b, b, arguments, a", api.ErrTwice},
		{"a, b, arguments, b", api.ErrName},
		// The function's own name is none of them.
		{"f", api.OK},
	} {
		for _, s := range functions("f(" + c.params + ") {}") {
			wantChecks(t, inStrict(c.strict, s))
		}
		for _, s := range functions("f(" + c.params + ") {'use strict';}") {
			wantChecks(t, both(c.strict, s))
		}
		for _, s := range functions("f(" + c.params + ") {; 'use strict'; (function() {'use strict';});}") {
			wantChecks(t, inStrict(c.strict, s))
		}
		// The name stands ahead of them.
		for _, s := range functions("eval(" + c.params + ") {'use strict';}") {
			wantChecks(t, both(api.ErrName, s))
		}
		for _, s := range []string{"x = function(" + c.params + ") {};", "(function(" + c.params + ") {})();"} {
			wantChecks(t, inStrict(c.strict, s))
		}
	}
}

func TestLetsAndParameters(t *testing.T) {
	for _, inner := range []string{"let a;", "const a = 1;", "x; let b; let a;", "function g() {} const a = a;"} {
		for _, s := range functions("f(c, a) {" + inner + "}") {
			wantChecks(t, both(api.ErrTwice, s))
		}
		for _, s := range functions("f(c, d) {" + inner + "}") {
			wantChecks(t, both(api.OK, s))
		}
		wantChecks(t, both(api.ErrTwice, "(function(a) {"+inner+"});"))
	}
	for _, inner := range []string{"var a;", "function a() {}", "{let a;}", "try {} catch (a) {}", "function g() {let a;}", "(function() {const a = 1;});", "a = 1;", "x = {a: a};", "let b;"} {
		for _, s := range functions("f(a) {" + inner + "}") {
			wantChecks(t, both(api.OK, s))
		}
	}
	wantChecks(t, both(api.OK, "let a; function f(a) {}", "{let a; (function(a) {});}", "(function f(a) {let f;});", "function f(a) {let f;}"))
}

// The parameters are looked at ahead of the Lets, and these ahead of what the Block is.
func TestFunctionsOrder(t *testing.T) {
	for _, c := range []wanted{
		{"f(a, a) {let a;}", api.ErrTwice, api.ErrTwice},
		{"f(a, eval) {let a;}", api.ErrTwice, api.ErrName},
		{"f(a, a) {let eval; let eval;}", api.ErrTwice, api.ErrTwice},
		{"f(eval) {let a; let a;}", api.ErrTwice, api.ErrName},
		{"f(a) {if (x) let b; let a;}", api.ErrTwice, api.ErrTwice},
		{"f(a) {if (x) let b; let b;}", api.ErrArg, api.ErrArg},
		{"f(a) {let eval; let b; let b;}", api.ErrTwice, api.ErrTwice},
		{"f(a) {let eval; let b;}", api.OK, api.ErrName},
		{"f(a) {delete a; let a;}", api.ErrTwice, api.ErrTwice},
		{"f(a) {delete a; let b;}", api.OK, api.ErrArg},
		{"eval(a) {delete a; let a;}", api.ErrTwice, api.ErrName},
		{"f(arguments) {delete a;}", api.OK, api.ErrName},
	} {
		for _, s := range functions(c.text) {
			wantChecks(t, []wanted{{s, c.loose, c.strict}})
		}
	}
}

func TestDeclaredNames(t *testing.T) {
	for _, name := range []string{"eval", "arguments"} {
		wantChecks(t, inStrict(api.ErrName,
			"var "+name+";",
			"var "+name+" = 1;",
			"let "+name+";",
			"let "+name+" = 1;",
			"const "+name+" = 1;",
			"try {} catch ("+name+") {}",
			"try {} catch ("+name+") {} finally {}",
			"if (x) var "+name+";",
			"if (x) ; else while (x) var "+name+";",
			"{{let "+name+";}}",
			"function f() {const "+name+" = 1;}",
			"x = function() {var "+name+";};",
			"try {try {} catch ("+name+") {}} finally {}",
		))
		wantChecks(t, both(api.OK,
			name+";",
			"print("+name+");",
			"a = "+name+";",
			"a."+name+" = 1;",
			name+".a = 1;",
			name+"('1');",
			"x = {"+name+": 1};",
			"delete a."+name+"; delete "+name+".a;",
			"typeof "+name+"; !"+name+";",
			"'"+name+"';",
		))
	}
	wantChecks(t, both(api.OK, "var evals; let argument; const e = 1; try {} catch (print) {}"))
}

func TestCatch(t *testing.T) {
	wantChecks(t, both(api.ErrTwice,
		"try {} catch (e) {let e;}",
		"try {} catch (e) {const e = 1;}",
		"try {} catch (e) {function e() {}}",
		"try {} catch (e) {; let a; let e;} finally {}",
		"function f() {try {} catch (e) {let e;}}",
		"{try {} catch (a) {try {} catch (e) {function e() {}}}}",
	))
	wantChecks(t, both(api.OK,
		"try {} catch (e) {}",
		"try {} catch (e) {var e;}",
		"try {} catch (e) {{let e;}}",
		"try {} catch (e) {{function e() {}}}",
		"try {let e;} catch (e) {} finally {let e;}",
		"try {} catch (e) {try {} catch (e) {}}",
		"try {} catch (e) {function f(e) {}}",
		"try {} catch (e) {(function e() {let e;});}",
		"try {} catch (e) {let a; const b = 1; function c() {}}",
		"let e; try {} catch (e) {}",
	))
	// Its name ahead of its Block's, both ahead of what the Block is.
	wantChecks(t, []wanted{
		{"try {} catch (eval) {let eval;}", api.ErrTwice, api.ErrName},
		{"try {} catch (e) {let eval; if (x) let b;}", api.ErrArg, api.ErrName},
		{"try {} catch (e) {if (x) let b; let e;}", api.ErrTwice, api.ErrTwice},
		{"try {} catch (arguments) {let a; let a;}", api.ErrTwice, api.ErrName},
		{"try {delete a;} catch (eval) {}", api.OK, api.ErrArg},
		{"try {} catch (eval) {} finally {delete a;}", api.OK, api.ErrName},
	})
}

func TestDeclarationsAlone(t *testing.T) {
	for _, s := range []string{"let a;", "let a = 1;", "const a = 1;", "function a() {}"} {
		wantChecks(t, both(api.ErrArg,
			"if (x) "+s,
			"if (x) "+s+" else ;",
			"if (x) ; else "+s,
			"if (x) {} else if (y) "+s,
			"if (x) "+s+" else "+s,
			"while (x) "+s,
			"with (x) "+s,
			"while (x) if (y) "+s,
			"{if (x) while (y) "+s+"}",
			"function f() {if (x) "+s+"}",
		))
		wantChecks(t, both(api.OK, "if (x) {"+s+"} else {"+s+"}", "while (x) {"+s+"}"))
		wantChecks(t, inStrict(api.ErrArg, "with (x) {"+s+"}"))
	}
	wantChecks(t, both(api.OK,
		"if (x) var a; else var a;",
		"while (x) var a;",
		"while (x) ;",
		"if (x) if (y) a; else b; else throw c;",
		"if (function() {let a;}) x;",
		"while (function f() {}) x = function() {};",
		"if (x) try {let a;} finally {function a() {}}",
	))
}

func TestWith(t *testing.T) {
	wantChecks(t, inStrict(api.ErrArg,
		"with (a) b;",
		"with (a) {}",
		"with (a) var b;",
		"{with (a) ;}",
		"if (x) while (y) with (z) a;",
		"function f() {with (a) b;}",
		"x = function() {if (y) with (a) b;};",
		"try {} finally {with (a) b;}",
	))
}

// Where strict code begins, and where it ends.
func TestStrictCode(t *testing.T) {
	for _, c := range []struct {
		text string
		want api.Errno
	}{
		{"'use strict'; delete a;", api.ErrArg},
		{"('use strict'); delete a;", api.ErrArg},
		{"(('use strict')); delete a;", api.ErrArg},
		{"; 'use strict'; delete a;", api.OK},
		{"'use strict' + ''; delete a;", api.OK},
		{"'use strict '; delete a;", api.OK},
		{"var a = 'use strict'; delete a;", api.OK},
		{"{'use strict'; delete a;}", api.OK},
		{"if (x) {'use strict'; delete a;}", api.OK},
		{"try {'use strict'; delete a;} catch (e) {'use strict'; delete a;} finally {'use strict'; delete a;}", api.OK},
		{"function f() {'use strict'; delete a;}", api.ErrArg},
		{"function f() {('use strict'); {delete a;}}", api.ErrArg},
		{"function f() {; 'use strict'; delete a;}", api.OK},
		{"x = function() {'use strict'; delete a;};", api.ErrArg},
		{"function f() {'use strict';} delete a;", api.OK},
		{"delete a; function f() {'use strict';}", api.OK},
		{"(function() {'use strict';})(delete a);", api.OK},
		{"function f() {function g() {'use strict';} delete a;}", api.OK},
		{"function f() {'use strict'; function g() {delete a;}}", api.ErrArg},
		{"function f() {'use strict'; (function() {{delete a;}});}", api.ErrArg},
		{"'use strict'; function f() {if (x) throw delete a;}", api.ErrArg},
		{"function f() {'use strict';} function g() {delete a;}", api.OK},
		{"(function() {'use strict';}) + (function() {delete a;});", api.OK},
		{"function f(eval, eval) {'use strict';}", api.ErrName},
		{"function f(eval, eval) {} function g(a) {'use strict';}", api.OK},
		{"strict; delete strict;", api.OK},
		{"var strict; function f(strict) {delete strict;}", api.OK},
		{"'strict'; delete a; function strict() {delete a;}", api.OK},
	} {
		n := parse(t, c.text)
		wantError(t, c.text, n, false, false, c.want)
		wantError(t, c.text, n, false, true, c.want)
	}
}

func TestReturn(t *testing.T) {
	for _, s := range []string{"return;", "return a;", "{return;}", "if (x) return;", "if (x) ; else return;", "while (x) {return 1;}", "try {return;} finally {}", "try {} catch (e) {return;}", "try {} finally {return;}", "with (x) return;", "function f() {} return;", "(function() {return;}); return;", "a; b; return;"} {
		n := parse(t, s)
		wantError(t, s, n, false, false, api.ErrState)
		wantError(t, s, n, false, true, api.OK)
		if !strings.Contains(s, "with") {
			wantError(t, s, n, true, false, api.ErrState)
			wantError(t, s, n, true, true, api.OK)
		}
		for _, f := range []string{"function f() {" + s + "}", "x = function() {" + s + "};", "{function f() {{" + s + "}}}", "(function() {function f() {" + s + "}})();"} {
			wantError(t, f, parse(t, f), false, false, api.OK)
			wantError(t, f, parse(t, f), false, true, api.OK)
		}
	}
	for _, s := range []string{"throw a;", "'return';", "a.b;"} {
		wantError(t, s, parse(t, s), false, false, api.OK)
	}
}

func TestAssign(t *testing.T) {
	for _, name := range []string{"eval", "arguments"} {
		wantChecks(t, inStrict(api.ErrName,
			name+" = 1;",
			"("+name+") = 1;",
			name+" = "+name+";",
			"a = "+name+" = b;",
			"a.b = "+name+" = b;",
			"("+name+" = a).b = c;",
			"f(a, "+name+" = 1);",
			"x = {a: "+name+" = 1};",
			"if ("+name+" = 1) ;",
			"var a = "+name+" = 1;",
			"throw !("+name+" = a);",
			"function f() {return "+name+" = 1;}",
		))
		wantChecks(t, both(api.OK, "a = "+name+";", name+".a = 1;", name+".a.b = 1;", name+"(a).b = 1;", "a."+name+" = 1;", name+" === 1;", name+"(a = 1);"))
	}
	wantChecks(t, both(api.OK, "a = 1;", "a = b = c;", "evals = 1;", "print = 1;"))
}

func TestDelete(t *testing.T) {
	wantChecks(t, inStrict(api.ErrArg,
		"delete a;",
		"delete (a);",
		"delete eval;",
		"!delete a;",
		"delete delete a;",
		"f(delete a);",
		"x = {a: delete a};",
		"if (delete a) ;",
		"delete (1 + delete a);",
		"function f(a) {return delete a;}",
		"var a = delete a;",
	))
	wantChecks(t, both(api.OK, "delete a.b;", "delete a.b.c;", "delete a();", "delete 1;", "delete 'a';", "delete (a + b);", "delete !a;", "delete (a = b);", "delete function a() {};", "delete {a: a};", "delete undefined;"))
}

// The first thing from the left, each ahead of what is within it.
func TestFirst(t *testing.T) {
	wantChecks(t, []wanted{
		// Side by side.
		{"delete a; eval = 1; with (a) b;", api.OK, api.ErrArg},
		{"eval = 1; delete a;", api.OK, api.ErrName},
		{"delete a + (eval = 1);", api.OK, api.ErrArg},
		{"(eval = 1) + delete a;", api.OK, api.ErrName},
		{"f(1, eval = 1, delete a);", api.OK, api.ErrName},
		{"(eval = 1)(delete a);", api.OK, api.ErrName},
		{"x = {a: delete a, b: eval = 1};", api.OK, api.ErrArg},
		{"if (x) let a; {let a; let a;}", api.ErrArg, api.ErrArg},
		{"{let a; let a;} if (x) let a;", api.ErrTwice, api.ErrTwice},
		{"function f(a) {let a;} if (x) let a;", api.ErrTwice, api.ErrTwice},
		{"try {if (x) let a;} catch (e) {let e;}", api.ErrArg, api.ErrArg},
		{"try {} catch (e) {let e;} finally {if (x) let a;}", api.ErrTwice, api.ErrTwice},
		{"try {} catch (e) {} finally {if (x) let a;} let b;", api.ErrArg, api.ErrArg},
		{"var eval = delete a;", api.OK, api.ErrName},
		{"var a = delete a; var eval;", api.OK, api.ErrArg},
		{"let eval = function(a, a) {};", api.OK, api.ErrName},
		{"const a = function(a, a) {}; let eval;", api.OK, api.ErrTwice},
		{"throw delete a; eval = 1;", api.OK, api.ErrArg},
		// A scope is ahead of what is within it, wherever in it the names stand.
		{"if (x) let a; let b; let b;", api.ErrTwice, api.ErrTwice},
		{"{if (x) let a; function b() {} function b() {}}", api.ErrTwice, api.ErrTwice},
		{"{delete a; let b; {var b;}}", api.ErrTwice, api.ErrTwice},
		{"eval = 1; let a; function a() {}", api.ErrTwice, api.ErrTwice},
		{"{if (x) let a; {let b; let b;}}", api.ErrArg, api.ErrArg},
		// If, While, With.
		{"if (function(a) {let a;}) let b;", api.ErrArg, api.ErrArg},
		{"while (delete a) function eval() {}", api.ErrArg, api.ErrArg},
		{"if (eval = 1) ; else let b;", api.ErrArg, api.ErrArg},
		{"with (eval = 1) {let a; let a;}", api.ErrTwice, api.ErrArg},
		{"with (function(a, a) {}) b;", api.OK, api.ErrArg},
		{"if (function(a) {let a;}) {if (x) let b;}", api.ErrTwice, api.ErrTwice},
		{"if (x) {let a; let a;} else let b;", api.ErrArg, api.ErrArg},
		{"if (x) {let a; let a;} else {if (x) let b;}", api.ErrTwice, api.ErrTwice},
		// Assign and Delete.
		{"eval = delete a;", api.OK, api.ErrName},
		{"a = delete a;", api.OK, api.ErrArg},
		{"delete delete a;", api.OK, api.ErrArg},
		{"(delete a).b = eval = 1;", api.OK, api.ErrArg},
		{"a.b = eval = delete a;", api.OK, api.ErrName},
	})
	// Return is ahead of its value.
	for _, c := range []wanted{
		{"return delete a;", api.ErrState, api.ErrState},
		{"return function(a) {let a;};", api.ErrState, api.ErrState},
		{"delete a; return;", api.ErrState, api.ErrArg},
		{"if (x) let a; return;", api.ErrArg, api.ErrArg},
		{"return; if (x) let a;", api.ErrState, api.ErrState},
		{"return; let a; let a;", api.ErrTwice, api.ErrTwice},
		{"with (a) return;", api.ErrState, api.ErrArg},
		{"try {return;} catch (eval) {}", api.ErrState, api.ErrState},
	} {
		wantError(t, c.text, parse(t, c.text), false, false, c.loose)
		wantError(t, c.text, parse(t, c.text), true, false, c.strict)
	}
}

// Programs as large, and as deep, as they can be.
func TestLarge(t *testing.T) {
	deep := strings.Repeat("{", 27)
	end := strings.Repeat("}", 27)
	wantError(t, "blocks", parse(t, deep+"let a; var a;"+end), false, false, api.ErrTwice)
	wantError(t, "blocks", parse(t, deep+"delete a;"+end), true, false, api.ErrArg)
	wantError(t, "signs", parse(t, strings.Repeat("!", 27)+"delete a;"), true, false, api.ErrArg)
	wantError(t, "calls", parse(t, "(eval = a)"+strings.Repeat("()", 1400)+";"), true, false, api.ErrName)
	wantError(t, "sums", parse(t, "delete a"+strings.Repeat("+1", 700)+";"), true, false, api.ErrArg)
	wantError(t, "statements", parse(t, strings.Repeat(";", 1490)+"return;"), false, false, api.ErrState)
	var lets strings.Builder
	for i := range 300 {
		lets.WriteString("let a" + string([]byte{byte('a' + i/26), byte('a' + i%26)}) + ";")
	}
	wantError(t, "lets", parse(t, lets.String()), true, false, api.OK)
	wantError(t, "lets", parse(t, lets.String()+"let aaa;"), true, false, api.ErrTwice)
}

// Parts of a program are asked as if they stood where the arguments tell; a Block alone is no function's.
func TestParts(t *testing.T) {
	n := parse(t, "function f(a, a) {'use strict'; return delete a;} {function b() {} var b;} if (x) let c;")
	for _, c := range []struct {
		what           string
		n              *api.Node
		strict, inside bool
		want           api.Errno
	}{
		{"a function", n.Kids[0], false, false, api.ErrTwice},
		{"its parameters", n.Kids[0].Kids[0], true, false, api.OK},
		{"its block", n.Kids[0].Kids[1], false, true, api.ErrArg},
		{"its block", n.Kids[0].Kids[1], false, false, api.ErrState},
		{"its return", n.Kids[0].Kids[1].Kids[1], false, true, api.OK},
		{"its return", n.Kids[0].Kids[1].Kids[1], true, true, api.ErrArg},
		{"a block", n.Kids[1], false, false, api.ErrTwice},
		{"an if", n.Kids[2], false, false, api.ErrArg},
		{"its value", n.Kids[2].Kids[0], true, false, api.OK},
		{"its let", n.Kids[2].Kids[1], true, false, api.OK},
	} {
		wantError(t, c.what, c.n, c.strict, c.inside, c.want)
	}
}
