package fold_test

import (
	"strings"
	"testing"

	"sloppyscope/api"
)

// Promise 9.1: what is known ahead.

func TestExample(t *testing.T) {
	wantFold(t, "print(1 + 2 * 3);", "print(7);")
}

func TestNot(t *testing.T) {
	for _, text := range []string{"0", "''", "false", "null", "undefined"} {
		wantFold(t, "!"+text+";", "true;")
		wantFold(t, "!!"+text+";", "false;")
	}
	for _, text := range []string{"1", "1000000000", "'a'", "'0'", "' '", "'false'", "'use strict'", "true"} {
		wantFold(t, "!"+text+";", "false;")
		wantFold(t, "!!"+text+";", "true;")
	}
	wantStay(t, "!a;", "!a.b;", "!f();", "!{};", "!function() {};", "!(a = 1);", "!delete a;", "!!a;")
}

func TestTypeof(t *testing.T) {
	for _, c := range [][2]string{
		{"0", "number"}, {"7", "number"}, {"''", "string"}, {"'a'", "string"}, {"'use strict'", "string"},
		{"true", "boolean"}, {"false", "boolean"}, {"null", "object"}, {"undefined", "undefined"},
	} {
		wantFold(t, "typeof "+c[0]+";", "'"+c[1]+"';")
		wantFold(t, "typeof typeof "+c[0]+";", "'string';")
	}
	wantStay(t, "typeof a;", "typeof a.b;", "typeof f();", "typeof {};", "typeof function() {};", "typeof (a = 1);", "typeof typeof a;", "typeof (0 || a);", "typeof (1 - 2);")
}

func TestSame(t *testing.T) {
	for _, c := range [][2]string{
		{"1 === 1", "true"}, {"1 === 2", "false"}, {"'a' === 'a'", "true"}, {"'a' === 'b'", "false"}, {"'' === ''", "true"},
		{"true === true", "true"}, {"false === false", "true"}, {"true === false", "false"}, {"null === null", "true"}, {"undefined === undefined", "true"},
		{"null === undefined", "false"}, {"1 === '1'", "false"}, {"1 === true", "false"}, {"0 === false", "false"}, {"0 === ''", "false"},
		{"0 === null", "false"}, {"'' === false", "false"}, {"'' === undefined", "false"}, {"'true' === true", "false"}, {"'use strict' === 'use strict'", "true"},
	} {
		wantFold(t, c[0]+";", c[1]+";")
	}
	wantStay(t, "a === 1;", "1 === a;", "a === a;", "a.b === 1;", "f() === null;", "(1 - 2) === (1 - 2);", "a = {} === {};")
}

func TestLess(t *testing.T) {
	for _, c := range [][2]string{
		{"1 < 2", "true"}, {"2 < 1", "false"}, {"1 < 1", "false"}, {"0 < 1000000000", "true"}, {"9 < 10", "true"},
		{"'a' < 'b'", "true"}, {"'b' < 'a'", "false"}, {"'a' < 'a'", "false"}, {"'' < 'a'", "true"}, {"'a' < ''", "false"}, {"'a' < 'ab'", "true"}, {"'9' < '10'", "false"}, {"'\x7f' < '\x80'", "true"}, {"'\xff' < 'a'", "false"},
	} {
		wantFold(t, c[0]+";", c[1]+";")
	}
	wantStay(t, "a < 1;", "1 < a;", "a < a;", "1 < 'a';", "'1' < 2;", "true < true;", "null < 1;", "undefined < undefined;", "'a' < null;")
}

func TestAdd(t *testing.T) {
	for _, c := range [][2]string{
		{"1 + 2", "3"}, {"0 + 0", "0"}, {"999999999 + 1", "1000000000"}, {"1000000000 + 0", "1000000000"},
		{"'a' + 'b'", "'ab'"}, {"'' + ''", "''"}, {"'a' + 1", "'a1'"}, {"1 + 'a'", "'1a'"}, {"0 + ''", "'0'"}, {"'' + 1000000000", "'1000000000'"},
		{"'a' + true", "'atrue'"}, {"false + 'a'", "'falsea'"}, {"'a' + null", "'anull'"}, {"null + 'a'", "'nulla'"}, {"undefined + 'a'", "'undefineda'"}, {"'a' + undefined", "'aundefined'"},
		{"'use' + 'strict'", "'usestrict'"}, {"'use strict' + ' '", "'use strict '"},
		{"'\\n' + '\\'' + '\\\\' + '\xff\x00'", "'\\n\\'\\\\\xff\x00'"},
	} {
		wantFold(t, c[0]+";", c[1]+";")
	}
	wantStay(t, "1000000000 + 1;", "1000000000 + 1000000000;", "1 + true;", "true + true;", "null + 1;", "undefined + undefined;", "1 + undefined;", "'a' + a;", "a + 'a';", "1 + {};", "'a' + {};", "'use strict' + '' + '!';")
}

func TestSub(t *testing.T) {
	for _, c := range [][2]string{{"2 - 1", "1"}, {"1 - 1", "0"}, {"0 - 0", "0"}, {"1000000000 - 0", "1000000000"}, {"1000000000 - 1000000000", "0"}} {
		wantFold(t, c[0]+";", c[1]+";")
	}
	wantStay(t, "0 - 1;", "1 - 2;", "0 - 1000000000;", "'a' - 'a';", "'2' - 1;", "2 - '1';", "true - 1;", "1 - null;", "undefined - 1;", "a - 1;", "1 - a;")
}

func TestMul(t *testing.T) {
	for _, c := range [][2]string{{"2 * 3", "6"}, {"0 * 1000000000", "0"}, {"1000000000 * 1", "1000000000"}, {"500000000 * 2", "1000000000"}, {"31622 * 31622", "999950884"}} {
		wantFold(t, c[0]+";", c[1]+";")
	}
	// The products of the last ones would be small numbers, if they were kept in 32 or 16 bits.
	wantStay(t, "500000001 * 2;", "31623 * 31623;", "1000000000 * 1000000000;", "65536 * 65536;", "65536 * 65537;", "'2' * 3;", "2 * '3';", "true * true;", "null * 1;", "1 * undefined;", "a * 0;", "0 * a;")
}

// A text at its bound is one, above it is thrown.
func TestLongText(t *testing.T) {
	long := strings.Repeat("x", api.MaxString-1)
	wantFold(t, "'"+long+"' + 'y';", "'"+long+"y';")
	wantFold(t, "'"+long+"' + 1;", "'"+long+"1';")
	wantFold(t, "0 || '"+long+"y';", "'"+long+"y';")
	wantStay(t, "'"+long+"' + 'yz';", "'"+long+"' + 10;", "'"+long+"' + null;", "true + '"+long+"';", "'"+long+"y' + 0;")
	wantFold(t, "'"+long+"y' + '';", "'"+long+"y';")
}

func TestOr(t *testing.T) {
	for _, first := range []string{"1", "'a'", "true"} {
		for _, second := range []string{"2", "a", "a.b", "f()", "'use strict'", "1 - 2", "(a = 1)", "undefined", "{}"} {
			wantFold(t, first+" || "+second+";", first+";")
		}
	}
	for _, first := range []string{"0", "''", "false", "null", "undefined"} {
		for _, second := range []string{"0", "2", "''", "'b'", "true", "null", "undefined", "f()", "f(a).b()", "1 - 2", "(a = 1)", "{a: b}", "function() {}", "!a", "delete a", "typeof a", "a + 1", "a && b", "(a || b)"} {
			wantFold(t, first+" || "+second+";", "("+second+");")
		}
		wantStay(t, first+" || a;", first+" || a.b;", first+" || f().b;", first+" || eval;", first+" || 'use strict';")
	}
	wantStay(t, "a || 1;", "a || b;", "a.b || 1;", "a = {} || 1;", "f() || 1;", "(1 - 2) || 1;", "'use strict' || 1;", "'use strict' || a;")
}

func TestAnd(t *testing.T) {
	for _, first := range []string{"0", "''", "false", "null", "undefined"} {
		for _, second := range []string{"2", "a", "a.b", "f()", "'use strict'", "1 - 2", "(a = 1)", "undefined", "{}"} {
			wantFold(t, first+" && "+second+";", first+";")
		}
	}
	for _, first := range []string{"1", "'a'", "true", "'use strict'"} {
		for _, second := range []string{"0", "2", "''", "'b'", "true", "null", "undefined", "f()", "f(a).b()", "1 - 2", "(a = 1)", "{a: b}", "function() {}", "!a", "delete a", "typeof a", "a + 1", "(a && b)", "(a || b)"} {
			wantFold(t, first+" && "+second+";", "("+second+");")
		}
		wantStay(t, first+" && a;", first+" && a.b;", first+" && f().b;", first+" && eval;", first+" && 'use strict';")
	}
	wantStay(t, "a && 1;", "a && b;", "f() && 1;", "(1 - 2) && 1;", "a = {} && 1;")
}

// What comes of one part is known to the one around it.
func TestFromWithin(t *testing.T) {
	for _, c := range [][2]string{
		{"1 + 2 + 3 + 4;", "10;"},
		{"1 + (2 + (3 + 4));", "10;"},
		{"1 + 2 + 'a' + 1 + 2;", "'3a12';"},
		{"!(1 < 2) === (2 < 1);", "true;"},
		{"typeof !typeof (1 + 1);", "'boolean';"},
		{"typeof (null || undefined);", "'undefined';"},
		{"2 - 3 + 4;", "2 - 3 + 4;"},
		{"4 + 2 - 3;", "3;"},
		{"(1 + 1) - (2 + 2);", "2 - 4;"},
		{"(1 + 1) * (1 - 2) + (3 + 4);", "2 * (1 - 2) + 7;"},
		{"1 - 1 || f(2 * 2);", "f(4);"},
		{"2 - 1 && (1 && f());", "f();"},
		{"1 && (0 || f());", "f();"},
		{"1 && (0 || a);", "0 || a;"},
		{"1 && (2 && (3 && a.b));", "3 && a.b;"},
		{"0 || (1 && 'use strict');", "1 && 'use strict';"},
		{"2 * 0 || a;", "0 || a;"},
		{"0 || (1 + 2).a;", "0 || 3.a;"},
		{"1 && ('use ' + 'strict');", "'use ' + 'strict';"},
		{"('use ' + 'strict') + '';", "'use ' + 'strict' + '';"},
		{"('use' + ' ') + 'strict';", "'use ' + 'strict';"},
		{"'use' + (' ' + 'strict') === 1;", "'use' + ' strict' === 1;"},
		{"(0 || 1) && (1 || a) && f();", "f();"},
		{"a || 1 && 0;", "a || 0;"},
		{"0 || a || 1 + 1;", "0 || a || 2;"},
		{"!(null + 1 * 1);", "!(null + 1);"},
		{"true || f(1 + 2);", "true;"},
		{"a + 1 + 2;", "a + 1 + 2;"},
		{"a + (1 + 2);", "a + 3;"},
		{"f(1 + 1, 'a' + 'b', !0).c.d(2 * 2);", "f(2, 'ab', true).c.d(4);"},
		{"(function(a) {return 1 < 2 && (function b() {return !a || 1 + 1;});});", "(function(a) {return function b() {return !a || 2;};});"},
		{"a.b = c = 1 + 1;", "a.b = c = 2;"},
		{"({a: 1 + 1}).b = 2 + 2;", "({a: 2}).b = 4;"},
	} {
		wantFold(t, c[0], c[1])
	}
}
