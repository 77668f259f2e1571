package run_test

import (
	"strconv"
	"strings"
	"testing"
)

// Promise 6.5.

// kinds are values of each kind, with what they show, by typeof's word.
type kind struct{ value, shown, word string }

func kinds() []kind {
	return []kind{
		{"undefined", "undefined", "undefined"}, {"null", "null", "object"}, {"true", "true", "boolean"}, {"false", "false", "boolean"},
		{"0", "0", "number"}, {"7", "7", "number"}, {"'s'", "s", "string"}, {"''", "", "string"},
		{"{}", "object", "object"}, {"{a: 1}", "object", "object"}, {"(function() {})", "function", "function"}, {"print", "function", "function"}, {"eval", "function", "function"},
	}
}

func TestLiterals(t *testing.T) {
	for _, k := range kinds() {
		wantShown(t, k.shown, k.value, "("+k.value+")")
		wantShown(t, k.word, "typeof "+k.value, "(function(a) {return typeof a;})("+k.value+")")
	}
	wantShown(t, "1000000000", "1000000000")
	wantShown(t, "a\nb'\\", "'a\\nb\\'\\\\'")
}

func TestName(t *testing.T) {
	wantDid(t, []did{
		{"var a = 1; print(a, a);", "1 1; done"},
		{"var a = 1; {let a = 2; {print(a);}}", "2; done"},
	})
	wantThrown(t, "reference", "a;", "print(a);", "function f() {return a;} f();", "{a; let a;}", "a.b;", "a();", "!a;")
}

func TestAssign(t *testing.T) {
	wantDid(t, []did{
		{"var a; print(a = 1, a);", "1 1; done"},
		{"var a; var b; a = b = 2; print(a, b);", "2 2; done"},
		{"a = 1; print(a, delete a, typeof a);", "1 true undefined; done"},
		{"function f() {a = 1;} f(); print(a, delete a);", "1 true; done"},
		{"function f() {var a; (function() {a = 1;})(); return a;} print(f(), typeof a);", "1 undefined; done"},
		{"{let a; {a = 1;} print(a);}", "1; done"},
		{"a = b;", "throws reference"},
		{"var a = 1; try {a = b;} catch (e) {} print(a);", "1; done"},
		{"{a = print('v'); let a;}", "v; throws reference"},
		{"{a = print('v'); const a = 1;}", "v; throws reference"},
		{"const a = 1; a = print('v');", "v; throws type"},
		{"const a = 1; try {a = 2;} catch (e) {} print(a);", "1; done"},
		{"'use strict'; const a = 1; a = 2;", "throws type"},
	})
}

// A name that is nowhere, or gone, when it is assigned.
func TestAssignGone(t *testing.T) {
	wantDid(t, []did{
		{"var o = {a: 1}; with (o) {a = eval('delete a; 2;');} print(o.a, typeof a);", "2 undefined; done"},
		{"var o = {a: 1}; var a = 5; with (o) {a = eval('delete o.a; 2;');} print(o.a, a);", "2 5; done"},
		{"a = 1; function cut() {delete a; return 2;} a = cut(); print(a, delete a);", "2 true; done"},
		{"a = 1; function cut() {delete a; return 2;} function f() {'use strict'; a = cut();} f();", "throws reference"},
		{"function f() {eval('var x = 1;'); x = eval('delete x; 2;'); print(typeof x);} f(); print(x);", "number; 2; done"},
		{"var x = 1; function f() {eval('var x = 3;'); x = eval('delete x; 2;'); print(x);} f(); print(x);", "2; 2; done"},
		// Nowhere stays nowhere, even if it has come to be since.
		{"a = eval('var a = 1; 2;'); print(a);", "2; done"},
		{"function g() {a = 1; return 2;} function f() {'use strict'; a = g();} try {f();} catch (e) {print(e, a);}", "reference 1; done"},
		{"function f() {a = eval('var a = 1; 2;'); print(a);} f(); print(a);", "1; 2; done"},
		{"var o = {}; with (o) {a = eval('o.a = 1; 2;');} print(o.a, a);", "1 2; done"},
		{"'use strict'; a = print('v');", "v; throws reference"},
		{"function f() {'use strict'; return a = 1;} try {f();} catch (e) {print(e, typeof a);}", "reference undefined; done"},
	})
}

func TestAssignMember(t *testing.T) {
	wantDid(t, []did{
		{"var o = {}; print(o.a = 1, o.a);", "1 1; done"},
		{"var o = {a: 1}; o.a = 2; o.b = 3; print(o.a, o.b);", "2 3; done"},
		{"var o = {a: {}}; o.a.b = 1; print(o.a.b);", "1; done"},
		{"print.x = 1; print(print.x); function f() {} f.y = 2; print(f.y);", "1; 2; done"},
		{"var o = {}; var p = o; p.a = 1; print(o.a);", "1; done"},
		{"function f(n) {print(n); return {};} f('object').a = f('value');", "object; value; done"},
		{"undefined.a = print('v');", "v; throws type"},
		{"a.b = print('v');", "throws reference"},
		{"({}).a = b;", "throws reference"},
		{"var o = {}; o.a = (o = 1); print(o);", "1; done"},
	})
	for _, k := range kinds()[:8] {
		wantThrown(t, "type", "("+k.value+").a = 1;", "'use strict'; ("+k.value+").a = 1;")
	}
}

func TestOrAnd(t *testing.T) {
	wantShown(t, "1", "1 || 2", "0 || 1", "2 && 1", "null || undefined || 1", "0 || 1 && 1", "1 || a", "true && 1")
	wantShown(t, "0", "0 && 2", "'' || 0", "0 && a", "1 && 0", "false || 0")
	wantShown(t, "", "'' && 1", "false || ''")
	wantDid(t, []did{
		{"print('a') || print('b');", "a; b; done"},
		{"print('a') && print('b');", "a; done"},
		{"print(({a: 1} || 0).a);", "1; done"},
	})
	wantThrown(t, "reference", "a || 1;", "a && 1;", "0 || a;", "1 && a;")
}

func TestSame(t *testing.T) {
	wantShown(t, "true", "1 === 1", "'a' === 'a'", "true === true", "false === !1", "null === null", "undefined === undefined", "'' === ''", "print === print", "1 + 1 === 2", "(function(a) {return a === a;})({})", "'a' + 'b' === 'ab'")
	wantShown(t, "false", "1 === 2", "1 === '1'", "1 === true", "0 === false", "'' === false", "null === undefined", "0 === ''", "0 === null", "{} === {}", "(function() {}) === (function() {})", "print === eval", "'a' === 'b'", "true === false", "{} === 0")
	for i, a := range kinds()[:8] {
		for j, b := range kinds()[:8] {
			wantShown(t, strconv.FormatBool(i == j), a.value+" === "+b.value)
		}
	}
	wantDid(t, []did{{"var o = {a: {}}; var p = o.a; print(p === o.a, p === o);", "true false; done"}})
}

func TestAdd(t *testing.T) {
	wantShown(t, "3", "1 + 2")
	wantShown(t, "-1", "1 + (0 - 2)")
	wantShown(t, "1a", "1 + 'a'")
	for _, k := range kinds() {
		wantShown(t, "x"+k.shown, "'x' + "+k.value)
		wantShown(t, k.shown+"x", k.value+" + 'x'")
	}
	for _, a := range kinds() {
		for _, b := range kinds() {
			if a.word != "string" && b.word != "string" && (a.word != "number" || b.word != "number") {
				wantThrown(t, "type", "print("+a.value+" + "+b.value+");")
			}
		}
	}
	wantShown(t, "-5", "'' + (0 - 5)")
	wantShown(t, "12", "1 + '' + 2")
}

func TestSubMulLess(t *testing.T) {
	wantShown(t, "1", "3 - 2", "3 - 1 - 1", "1 * 1")
	wantShown(t, "-6", "0 - 6", "2 * (0 - 3)", "0 - 2 * 3")
	wantShown(t, "0", "0 * 5", "0 * (0 - 5)", "5 - 5")
	wantShown(t, "true", "1 < 2", "0 - 1 < 0", "'a' < 'b'", "'' < 'a'", "'a' < 'aa'", "'10' < '9'", "'B' < 'a'", "'z' < '\xc3\xa9'", "'z' < '\xff'", "'a\\n' < 'ab'")
	wantShown(t, "false", "2 < 1", "1 < 1", "'b' < 'a'", "'a' < 'a'", "'aa' < 'a'", "'' < ''", "'\xff' < 'z'")
	for _, a := range kinds() {
		for _, b := range kinds() {
			if a.word != "number" || b.word != "number" {
				wantThrown(t, "type", "print("+a.value+" - "+b.value+");", "print("+a.value+" * "+b.value+");")
			}
			if (a.word != "number" || b.word != "number") && (a.word != "string" || b.word != "string") {
				wantThrown(t, "type", "print("+a.value+" < "+b.value+");")
			}
		}
	}
}

func TestOrderOfPairs(t *testing.T) {
	for _, sign := range []string{"===", "<", "+", "-", "*"} {
		text := "function f(a) {print(a); return 1;} f('left') " + sign + " f('right');"
		wantDid(t, []did{{text, "left; right; done"}})
		wantDid(t, []did{{"print('left') " + sign + " a;", "left; throws reference"}})
		wantDid(t, []did{{"a " + sign + " print('right');", "throws reference"}})
	}
}

func TestNumbersTooGreat(t *testing.T) {
	wantShown(t, "1000000000", "999999999 + 1", "1000000000 + 0", "1000000000 - 0", "1000000000 * 1", "100000 * 10000")
	wantShown(t, "-1000000000", "0 - 1000000000", "(0 - 999999999) - 1", "1000000000 * (0 - 1)", "0 - 500000000 + (0 - 500000000)")
	wantShown(t, "true", "0 - 1000000000 < 1000000000")
	wantThrown(t, "range", "1000000000 + 1;", "1000000000 + 1000000000;", "1000000000 - (0 - 1);", "0 - 1000000000 - 1;", "1000000000 * 2;", "1000000000 * 1000000000;", "(0 - 1000000000) * 1000000000;", "(0 - 1000000000) * (0 - 1000000000);", "31623 * 31623;")
}

func TestTextsTooLong(t *testing.T) {
	text := func(n int) string { return strings.Repeat("x", n) }
	wantShown(t, text(500), "'"+text(500)+"'", "'"+text(250)+"' + '"+text(250)+"'", "'"+text(500)+"' + ''", "'' + '"+text(500)+"'")
	wantShown(t, text(497)+"123", "'"+text(497)+"' + 123")
	wantShown(t, "undefined"+text(491), "undefined + '"+text(491)+"'")
	wantThrown(t, "range",
		"'"+text(500)+"' + 'x';", "'x' + '"+text(500)+"';", "'"+text(250)+"' + '"+text(251)+"';", "'"+text(498)+"' + 123;", "undefined + '"+text(492)+"';",
		"var s = 'a'; while (true) s = s + s;")
	wantDid(t, []did{{"var s = 'x'; try {while (true) s = s + s;} catch (e) {print(e, s + '" + text(244) + "' === '" + text(500) + "');}", "range true; done"}})
}

func TestNot(t *testing.T) {
	wantShown(t, "true", "!0", "!''", "!false", "!null", "!undefined", "!!1", "!(1 - 1)")
	wantShown(t, "false", "!1", "!'a'", "!true", "!{}", "!print", "!!0", "!(0 - 1)")
}

func TestTypeof(t *testing.T) {
	wantShown(t, "undefined", "typeof a", "typeof (a)", "typeof {}.a", "typeof print.a", "typeof (function() {})()")
	wantShown(t, "string", "typeof typeof a", "typeof (1 + 'a')")
	wantShown(t, "boolean", "typeof !1", "typeof (1 < 2)", "typeof delete a")
	wantShown(t, "object", "typeof (0 || null)", "typeof {a: 1}")
	wantThrown(t, "reference", "{typeof a; let a;}", "{typeof a; const a = 1;}", "typeof a.b;", "typeof !a;", "typeof a();")
	wantThrown(t, "type", "typeof undefined.a;")
	wantDid(t, []did{{"'use strict'; print(typeof a);", "undefined; done"}, {"with ({a: 'x'}) print(typeof a);", "string; done"}})
}

func TestDeleteName(t *testing.T) {
	wantDid(t, []did{
		{"print(delete a, delete (a));", "true true; done"},
		{"var a = 1; print(delete a, delete (a), a);", "false false 1; done"},
		{"let a = 1; print(delete a, a);", "false 1; done"},
		{"{print(delete a); let a;}", "false; done"},
		{"const a = 1; print(delete a, a);", "false 1; done"},
		{"a = 1; print(delete a, delete a, typeof a);", "true true undefined; done"},
		{"function f(a) {var b; print(delete a, delete b, delete arguments, delete f);} f();", "false false false false; done"},
		{"(function f() {print(delete f);})();", "false; done"},
		{"try {throw 1;} catch (e) {print(delete e);}", "false; done"},
		{"{function f() {} print(delete f);}", "false; done"},
		{"eval('var a = 1; function f() {}'); print(delete a, delete f, typeof a, typeof f);", "true true undefined undefined; done"},
		{"function g() {eval('var a = 1; function f() {}'); print(delete a, delete f, typeof a, typeof f);} g();", "true true undefined undefined; done"},
		{"eval('let a = 1; print(delete a, a);');", "false 1; done"},
		{"var x = 1; with ({x: 2}) print(delete x, x, delete x, x);", "true 1 false 1; done"},
		// An outer name is found again when the inner one goes.
		{"var x = 1; function f() {eval('var x = 2;'); print(x); delete x; print(x);} f();", "2; 1; done"},
		{"a = 1; function f() {return delete a;} print(f(), typeof a);", "true undefined; done"},
	})
}

func TestDeleteMember(t *testing.T) {
	wantDid(t, []did{
		{"var o = {a: 1, b: 2}; print(delete o.a, o.a, o.b);", "true undefined 2; done"},
		{"var o = {}; print(delete o.a);", "true; done"},
		{"'use strict'; var o = {a: 1}; print(delete o.a, delete o.a, typeof o.a);", "true true undefined; done"},
		{"print.a = 1; print(delete print.a, print.a);", "true undefined; done"},
		{"function f() {print('f'); return {a: 1};} print(delete f().a);", "f; true; done"},
		{"var o = {a: {b: 1}}; print(delete o.a.b, typeof o.a, o.a.b);", "true object undefined; done"},
	})
	for _, k := range kinds()[:8] {
		wantThrown(t, "type", "delete ("+k.value+").a;")
	}
	wantThrown(t, "reference", "delete a.b;", "delete (a.b).c;")
}

func TestDeleteElse(t *testing.T) {
	wantShown(t, "true", "delete 1", "delete 'a'", "delete {}", "delete (1 + 2)", "delete undefined", "delete !1", "delete delete a", "delete typeof a", "delete (function() {})", "delete print.x")
	wantDid(t, []did{
		{"print(delete print('v'));", "v; true; done"},
		{"var a; print(delete (a = 1), a);", "true 1; done"},
		{"'use strict'; print(delete 1);", "true; done"},
		{"'use strict'; print(delete print('v'));", "v; true; done"},
	})
	wantThrown(t, "reference", "delete a();", "delete !a;", "delete (a + 1);")
}

func TestMember(t *testing.T) {
	wantShown(t, "1", "{a: 1}.a", "{a: {b: 1}}.a.b", "(function() {return {a: 1};})().a")
	wantShown(t, "undefined", "{}.a", "{a: 1}.b", "print.a", "{length: 1}.a0", "(function() {}).length")
	for _, k := range kinds()[:8] {
		wantThrown(t, "type", "print(("+k.value+").a);")
	}
	wantThrown(t, "type", "({}).a.b;", "undefined.a.b;")
}

func TestObject(t *testing.T) {
	wantDid(t, []did{
		{"var o = {a: 1, b: 'x', c: {d: 2}}; print(o.a, o.b, o.c.d);", "1 x 2; done"},
		{"var o = {a: 1, a: 2}; print(o.a);", "2; done"},
		{"function f(n) {print(n); return n;} var o = {b: f(1), a: f(2), b: f(3)}; print(o.a, o.b);", "1; 2; 3; 2 3; done"},
		{"function f() {return {};} print(f() === f());", "false; done"},
		{"var a = 1; var o = {a: a + 1, b: a}; print(o.a, o.b);", "2 1; done"},
		{"print({a: b});", "throws reference"},
		{"var f = {g: function() {return 3;}}; print(f.g());", "3; done"},
	})
}
