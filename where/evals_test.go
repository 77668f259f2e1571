package where_test

import (
	"testing"

	"sloppyscope/api"
	"sloppyscope/where"
)

func wantEvals(t *testing.T, want bool, texts ...string) {
	t.Helper()
	for _, s := range texts {
		if got := where.Evals(parse(t, s)); got != want {
			t.Errorf("%s: %t, want %t", s, got, want)
		}
	}
}

func TestEvals(t *testing.T) {
	wantEvals(t, true,
		"eval();",
		"eval('1');",
		"(eval)(1, 2);",
		"a; b; eval(c);",
		"eval(); function f() {}",
		"function f() {} eval();",
		"'use strict'; eval();",
		"let eval; eval();",
		// In all kinds of parts.
		"var a = eval();", "let a = eval();", "const a = eval();",
		"{eval();}", "{{;} {eval();}}",
		"if (eval()) ;", "if (1) eval();", "if (1) ; else eval();",
		"while (eval()) ;", "while (1) eval();",
		"with (eval()) ;", "with (1) eval();",
		"return eval();", "throw eval();",
		"try {eval();} catch (e) {}", "try {} catch (e) {eval();}", "try {} finally {eval();}",
		"a = eval();", "eval().a = 1;", "a.b = eval();",
		"eval() || 1;", "1 || eval();", "eval() && 1;", "1 && eval();",
		"eval() === 1;", "1 === eval();", "eval() < 1;", "1 < eval();",
		"eval() + 1;", "1 + eval();", "eval() - 1;", "1 - eval();", "eval() * 1;", "1 * eval();",
		"!eval();", "typeof eval();", "delete eval();", "delete eval().a;",
		"eval()();", "a(eval());", "a(1, eval());", "eval(eval());", "eval().a;",
		"({a: eval()});", "({a: 1, b: eval()});",
		"(function() {})(eval());",
	)
	wantEvals(t, false,
		"", ";", "a;", "a();", "1;", "'eval()';",
		// No call of it.
		"eval;", "eval = 1;", "typeof eval;", "delete eval;", "var eval;", "let eval = a();", "a(eval);", "eval + a();", "({eval: a()});",
		"try {} catch (eval) {a();}", "eval.a();",
		// A call of another value.
		"evals();", "eva();", "(0 || eval)();", "(eval = a)();", "(a.eval)();", "'eval'();", "eval.eval();",
		"a.eval();", "a().eval;", "this.eval();",
	)
}

func TestEvalsInFunctions(t *testing.T) {
	wantEvals(t, false,
		"function f() {eval();}",
		"function eval() {} function f(eval) {eval();}",
		"(function() {eval();});",
		"(function eval() {eval();})();",
		"a((function() {eval();}));",
		"({a: function() {eval();}});",
		"{function f() {eval();}}",
		"if (1) function f() {eval();}",
		"(function eval() {})();",
		"try {} catch (e) {(function() {return eval();})();}",
	)
	wantEvals(t, true,
		"function f() {eval();} eval();",
		"(function() {eval();})(eval());",
		"eval((function() {}));",
		"eval((function() {eval();}));",
	)
}

// The node itself may be the call, or a function.
func TestEvalsOfParts(t *testing.T) {
	cases := []struct {
		text string
		kind int
		want bool
	}{
		{"eval(1);", api.Call, true},
		{"a(eval);", api.Call, false},
		{"a(eval());", api.Call, true},
		{"eval(1);", api.Expr, true},
		{"eval(1);", api.Name, false},
		{"eval(1);", api.Num, false},
		{"function f() {eval();}", api.Func, true},
		{"function f() {eval();}", api.Block, true},
		{"function f() {eval();}", api.Params, false},
		{"function f(eval) {}", api.Func, false},
		{"function f(eval) {}", api.Params, false},
		{"function f() {'use strict'; eval();}", api.Func, true},
		{"function f() {{if (1) eval();}}", api.Func, true},
		{"function f() {function g() {eval();}}", api.Func, false},
		{"function f() {(function() {eval();});}", api.Func, false},
		{"function f() {function g() {} eval();}", api.Func, true},
		{"(function() {eval();});", api.Lambda, true},
		{"(function eval() {});", api.Lambda, false},
		{"(function() {(function() {eval();});});", api.Lambda, false},
		{"(function() {function f() {eval();}});", api.Lambda, false},
		{"(function() {return (function() {})(eval());});", api.Lambda, true},
		{"eval(); (function() {});", api.Lambda, false},
		{"eval(); {a;}", api.Block, false},
		{"{eval();} ", api.Block, true},
		{"{function f() {eval();}}", api.Block, false},
		{"try {} catch (e) {eval();}", api.Catch, true},
		{"try {eval();} catch (e) {}", api.Catch, false},
		{"try {} finally {eval();}", api.Finally, true},
		{"x = {a: eval()};", api.Prop, true},
		{"x = {eval: a()};", api.Prop, false},
	}
	for _, c := range cases {
		if got := where.Evals(first(t, c.text, c.kind)); got != c.want {
			t.Errorf("%s, kind %d: %t, want %t", c.text, c.kind, got, c.want)
		}
	}
}
