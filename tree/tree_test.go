package tree_test

import (
	"fmt"
	"slices"
	"strings"
	"testing"

	"sloppyscope/api"
	"sloppyscope/lex"
	"sloppyscope/plain"
	"sloppyscope/tree"
)

var kinds = strings.Fields("none program var let const func block if while with return throw try catch finally expr empty num str true false null undef name assign or and same less add sub mul not typeof delete call member lambda object prop params")

// shape is a node, and all within: its kind, :Text, #N, and its Kids in parentheses.
func shape(n *api.Node) string {
	if n == nil {
		return "nil"
	}
	s := kinds[n.Kind]
	if n.Text != "" {
		s += ":" + n.Text
	}
	if n.N != 0 || n.Kind == api.Num {
		s += fmt.Sprint("#", n.N)
	}
	if len(n.Kids) == 0 {
		return s
	}
	var l []string
	for _, k := range n.Kids {
		l = append(l, shape(k))
	}
	return s + "(" + strings.Join(l, " ") + ")"
}

// parse is the program of a text that has no fault.
func parse(t *testing.T, text string) *api.Node {
	t.Helper()
	n, err := tree.Parse(text)
	if err != nil || n == nil {
		e, at := plain.Place(err)
		t.Fatalf("%.200q: %s, error %d at %d", text, shape(n), e, at)
	}
	return n
}

// wantShape: the text is a program of these statements.
func wantShape(t *testing.T, text, statements string) {
	t.Helper()
	want := "program"
	if statements != "" {
		want += "(" + statements + ")"
	}
	if got := shape(parse(t, text)); got != want {
		t.Errorf("%q:\n got %s\nwant %s", text, got, want)
	}
}

// wantFault: the text has an error at a byte (-1: at none), and no program.
func wantFault(t *testing.T, text string, want api.Errno, place int) {
	t.Helper()
	n, err := tree.Parse(text)
	e, at := plain.Place(err)
	if e != want || at != place || n != nil {
		t.Errorf("%.200q: got %.200s, error %d at %d; want error %d at %d", text, shape(n), e, at, want, place)
	}
	switch err.(type) {
	case *api.At, api.Errno:
	default:
		t.Errorf("%.200q: an error of type %T", text, err)
	}
}

// marked takes the @ out of a text, and tells where it stood: the byte of the token that can't stand there.
func marked(text string) (string, int) {
	return strings.Replace(text, "@", "", 1), strings.Index(text, "@")
}

// wantFaultAt: as wantFault, at the byte where an @ stands in the text.
func wantFaultAt(t *testing.T, text string, want api.Errno) {
	t.Helper()
	s, at := marked(text)
	if at < 0 {
		t.Fatalf("%q tells no byte", text)
	}
	wantFault(t, s, want, at)
}

// Promise 2.1.

func TestParseStatements(t *testing.T) {
	for _, c := range [][2]string{
		{"", ""},
		{" \n ", ""},
		{";", "empty"},
		{";;", "empty empty"},
		{"var a;", "var:a"},
		{"var a = 1;", "var:a(num#1)"},
		{"let a;", "let:a"},
		{"let a = 1;", "let:a(num#1)"},
		{"const a = 0;", "const:a(num#0)"},
		{"var a = b = c;", "var:a(assign(name:b name:c))"},
		{"function f() {}", "func:f(params block)"},
		{"function f(a) {a;}", "func:f(params(name:a) block(expr(name:a)))"},
		{"function f(a, b, a) {} ;", "func:f(params(name:a name:b name:a) block) empty"},
		{"{}", "block"},
		{"{{} ; a;}", "block(block empty expr(name:a))"},
		{"if (a) b;", "if(name:a expr(name:b))"},
		{"if (a) b; else c;", "if(name:a expr(name:b) expr(name:c))"},
		{"if (a) if (b) c; else d;", "if(name:a if(name:b expr(name:c) expr(name:d)))"},
		{"if (a) {if (b) c;} else d;", "if(name:a block(if(name:b expr(name:c))) expr(name:d))"},
		{"if (a) if (b) c; else d; else e;", "if(name:a if(name:b expr(name:c) expr(name:d)) expr(name:e))"},
		{"if (a) ; else if (b) ; else ;", "if(name:a empty if(name:b empty empty))"},
		{"while (a) b;", "while(name:a expr(name:b))"},
		{"with (a) {}", "with(name:a block)"},
		{"if (a) function f() {}", "if(name:a func:f(params block))"},
		{"while (a) let b;", "while(name:a let:b)"},
		{"if (a = 1) ;", "if(assign(name:a num#1) empty)"},
		{"return;", "return"},
		{"return a;", "return(name:a)"},
		{"throw a;", "throw(name:a)"},
		{"try {} catch (e) {}", "try(block catch:e(block))"},
		{"try {} finally {}", "try(block finally(block))"},
		{"try {a;} catch (e) {b;} finally {c;}", "try(block(expr(name:a)) catch:e(block(expr(name:b))) finally(block(expr(name:c))))"},
		{"a;", "expr(name:a)"},
		{"{} a;", "block expr(name:a)"},
		{"function f() {} (a);", "func:f(params block) expr(name:a)"},
	} {
		wantShape(t, c[0], c[1])
	}
}

// The blanks between the tokens of a program don't matter.
func TestParseBlanks(t *testing.T) {
	for _, c := range [][2]string{
		{"if(a)b=1;else{}", "if (a) b = 1; else {}"},
		{"function f(a,b){return a;}", "function\n f (\na , b )\n{ return  a\n; }"},
		{"a.b(c);", "a . b ( c ) ;"},
		{"!a;typeof(a);", "! a ; typeof ( a ) ;"},
	} {
		if a, b := parse(t, c[0]), parse(t, c[1]); !plain.Same(a, b) {
			t.Errorf("%q is %s, %q is %s", c[0], shape(a), c[1], shape(b))
		}
	}
}

// What Tokens finds wrong is told first, wherever it stands.
func TestParseTokensFirst(t *testing.T) {
	wantFaultAt(t, ") @#", api.ErrForm)
	wantFaultAt(t, "1 = 2; 'a@", api.ErrForm)
	wantFaultAt(t, ") @1000000001", api.ErrRange)
	wantFaultAt(t, ") @abcdefghijklmnopqrstu", api.ErrLimit)
	wantFaultAt(t, ") @A", api.ErrForm)
	wantFault(t, strings.Repeat(" ", api.MaxSource+1), api.ErrLimit, -1)
	wantFault(t, strings.Repeat(")", api.MaxSource+1), api.ErrLimit, -1)
	wantShape(t, strings.Repeat(" ", api.MaxSource), "")
}

// Promise 2.2.

func wantValue(t *testing.T, value, want string) {
	t.Helper()
	wantShape(t, "x = "+value+";", "expr(assign(name:x "+want+"))")
}

func TestParseValues(t *testing.T) {
	for _, c := range [][2]string{
		{"a", "name:a"}, {"0", "num#0"}, {"1000000000", "num#1000000000"},
		{`'a\n'`, "str:a\n"}, {"''", "str"}, {"'('", "str:("}, {"'true'", "str:true"},
		{"true", "true"}, {"false", "false"}, {"null", "null"}, {"undefined", "undef"},
		{"(a)", "name:a"}, {"((a))", "name:a"}, {"(a = b)", "assign(name:a name:b)"},
		{"a = b = c", "assign(name:a assign(name:b name:c))"},
		{"a.b = c", "assign(member:b(name:a) name:c)"},
		{"(a) = c", "assign(name:a name:c)"},
		{"(a.b) = c", "assign(member:b(name:a) name:c)"},
		{"a().b = c", "assign(member:b(call(name:a)) name:c)"},
		{"a - b - c", "sub(sub(name:a name:b) name:c)"},
		{"a - (b - c)", "sub(name:a sub(name:b name:c))"},
		{"a + b - c + d", "add(sub(add(name:a name:b) name:c) name:d)"},
		{"1 + 2 * 3 < 4 === 5 && 6 || 7", "or(and(same(less(add(num#1 mul(num#2 num#3)) num#4) num#5) num#6) num#7)"},
		{"7 || 6 && 5 === 4 < 3 + 2 * 1", "or(num#7 and(num#6 same(num#5 less(num#4 add(num#3 mul(num#2 num#1))))))"},
		{"!a", "not(name:a)"}, {"typeof a", "typeof(name:a)"}, {"delete a", "delete(name:a)"},
		{"!typeof delete !a", "not(typeof(delete(not(name:a))))"},
		{"!a + b", "add(not(name:a) name:b)"}, {"a + !b", "add(name:a not(name:b))"}, {"!(a + b)", "not(add(name:a name:b))"},
		{"!a * !b", "mul(not(name:a) not(name:b))"},
		{"!a.b", "not(member:b(name:a))"}, {"!a(b)", "not(call(name:a name:b))"}, {"(!a).b", "member:b(not(name:a))"},
		{"a.b.c", "member:c(member:b(name:a))"},
		{"a.b(c)(d).e", "member:e(call(call(member:b(name:a) name:c) name:d))"},
		{"a()", "call(name:a)"}, {"a(b, c)", "call(name:a name:b name:c)"}, {"a(b = c, d)", "call(name:a assign(name:b name:c) name:d)"},
		{"1(2)", "call(num#1 num#2)"}, {"'s'.length", "member:length(str:s)"}, {"1.a", "member:a(num#1)"},
		{"(a || b)(c)", "call(or(name:a name:b) name:c)"},
		{"function() {}", "lambda(params block)"},
		{"function f(a) {a;}", "lambda:f(params(name:a) block(expr(name:a)))"},
		{"function() {}()", "call(lambda(params block))"},
		{"(function() {})()", "call(lambda(params block))"},
		{"{}", "object"}, {"{}.a", "member:a(object)"},
		{"{a: 1}", "object(prop:a(num#1))"},
		{"{a: b = 1, a: {}}", "object(prop:a(assign(name:b num#1)) prop:a(object))"},
	} {
		wantValue(t, c[0], c[1])
	}
}

// Of any two signs the stronger one holds its parts together; like ones go from the left.
func TestParseStrength(t *testing.T) {
	signs := []struct {
		text, kind string
		strength   int
	}{{"||", "or", 1}, {"&&", "and", 2}, {"===", "same", 3}, {"<", "less", 4}, {"+", "add", 5}, {"-", "sub", 5}, {"*", "mul", 6}}
	for _, p := range signs {
		for _, q := range signs {
			want := q.kind + "(" + p.kind + "(name:a name:b) name:c)"
			if q.strength > p.strength {
				want = p.kind + "(name:a " + q.kind + "(name:b name:c))"
			}
			wantValue(t, "a "+p.text+" b "+q.text+" c", want)
		}
		wantValue(t, "a = b "+p.text+" c", "assign(name:a "+p.kind+"(name:b name:c))")
		wantValue(t, "typeof a "+p.text+" delete c", p.kind+"(typeof(name:a) delete(name:c))")
	}
}

// What is assigned to is a Name or Member: it is told at the first token of the value, as soon as = is read.
func TestParseAssignFaults(t *testing.T) {
	for _, s := range []string{
		"@a + 1 = 2;", "@1 = 2;", "@(a + b) = 2;", "@a() = 1;", "@!a = 1;", "@typeof a = 1;", "@'a' = 1;", "@true = 1;", "@({}) = 1;",
		"a = @b + 1 = c;", "a = @b || c = d;", "f(a, @1 = 2);", "({a: @1 = 2});", "var a = @1 = 2;", "if (@1 = 2) ;", "(@1 = 2) + 3;", "@(a = b) = c;",
		"@1 + a.b = 3;", "@1 = ;", "@1 = )", "@1 =", "!(@1 = 2);", "return @null = 1;",
	} {
		wantFaultAt(t, s, api.ErrArg)
	}
}

// A statement that begins with { or function is no value.
func TestParseNoExpr(t *testing.T) {
	for _, s := range []string{"function @() {}", "function f() {}@.a;", "{a@: 1}", "{}@.a;", "function f() {}(@);", "{} @= 1;", "if (a) function @() {}"} {
		wantFaultAt(t, s, api.ErrForm)
	}
}

// Promise 2.3.

func TestParseFormFaults(t *testing.T) {
	for _, s := range []string{
		"a@", "a = @", "a = @;", "a @b;", "a +@;", "a + @* b;", "@=;", "@* a;", "a @! b;", "!@;", "typeof@", "(a@;", "(@);", "(a@, b);",
		"@)", "@}", "@]", "@[a];", "a@[b];", "@:", "@,", "@.a;", "a @: b;", "a@, b;",
		"var@", "var @1;", "var @if;", "var a@", "var a @b;", "var a = @;", "var a@, b;", "let @;", "let @let;", "const a@;", "const a@", "const @= 1;", "const a = @;",
		"function@", "function @1() {}", "function f@", "function f @{}", "function f(@", "function f(a@", "function f(a @b) {}", "function f(a, @) {}", "function f(@, a) {}", "function f(@1) {}", "function f(a)@", "function f(a) @;", "function f() {@", "function f() {a@}",
		"{@", "{a@}", "{a;@", "{@)",
		"if@", "if @a;", "if (@) b;", "if (a@", "if (a)@", "if (a) b;else@", "@else a;", "if (a) {} ; @else b;", "if (a) @else b;", "if (a) b; else @else c;",
		"while@", "while @a;", "while (@) ;", "while (a)@", "with @{}", "with (a)@", "with (a) @}",
		"return@", "return a@", "return @)", "return a @b;", "throw@", "throw@;", "throw a@",
		"try@", "try @a;", "try {}@", "try {}@;", "try {} catch @{}", "try {} catch (@) {}", "try {} catch (@1) {}", "try {} catch (e@, f) {}", "try {} catch (e)@", "try {} catch (e) @a;", "try {} finally@", "try {} finally @(e) {}", "try {} finally {} @catch (e) {}", "try {} catch (e) {} @catch (e) {}", "@catch (e) {}", "@finally {}",
		"a.@", "a.@1;", "a.@if;", "a.@'b';", "a.@(b);", "a(@", "a(b@", "a(@, b);", "a(b,@);", "a(b @c);", "a(b@;", "a(@;)",
		"({a@});", "({a: @});", "({@1: 2});", "({@'a': 2});", "({a: 1,@});", "({a: 1 @b: 2});", "({a: 1@", "({@if: 1});",
		"(function@);", "(function @1() {});", "(function f@);", "(function(@{}));", "x = function() @a;", "true @false;",
		"a @if;", "1 @2;", "'a' @'b';", "'(' @a);",
	} {
		wantFaultAt(t, s, api.ErrForm)
	}
}

// numbered is so many of a text, the % in it their number from 1 on, with commas between.
func numbered(item string, many int) string {
	var l []string
	for i := range many {
		l = append(l, strings.ReplaceAll(item, "%", fmt.Sprint(i+1)))
	}
	return strings.Join(l, ", ")
}

func TestParseMaxParams(t *testing.T) {
	for _, c := range [][3]string{
		{"function f(", "p%", ") {}"}, {"x = function(", "p%", ") {};"}, {"x = function f(", "p%", ") {};"},
		{"f(", "%", ");"}, {"f(1)(", "a%", ");"}, {"f(", "!a%", ");"}, {"f(", "a = {}", ");"},
		{"x = {", "p%: %", "};"}, {"f(", "function() {}", ");"}, {"f(", "'%'", ");"}, {"f(", "(a)", ");"}, {"f(", "true", ");"}, {"f(", "delete a", ");"},
	} {
		parse(t, c[0]+numbered(c[1], api.MaxParams)+c[2])
		eight := c[0] + numbered(c[1], api.MaxParams)
		wantFaultAt(t, eight+", @"+strings.ReplaceAll(c[1], "%", "9")+c[2], api.ErrLimit)
		wantFaultAt(t, eight+", @"+strings.ReplaceAll(c[1], "%", "9"), api.ErrLimit)
		wantFaultAt(t, c[0]+numbered(c[1], api.MaxParams)+"@", api.ErrForm)
		// None begins there, so it is the token that can't stand there.
		for _, s := range []string{c[2], ";", ",", "=", "+", "||"} {
			wantFaultAt(t, eight+", @"+s, api.ErrForm)
		}
	}
	wantFaultAt(t, "function f("+numbered("p%", 8)+", @9) {}", api.ErrForm)
	wantFaultAt(t, "x = {"+numbered("p%: %", 8)+", @'a': 1};", api.ErrForm)
}

// Each of these is a part that stands in itself, one deeper each time.
func TestParseMaxDeep(t *testing.T) {
	for _, c := range [][2]string{
		{"{", "}"}, {"function f() {", "}"}, {"try {", "} finally {}"}, {"try {} catch (e) {", "}"}, {"try {} finally {", "}"},
	} {
		for many := range 40 {
			wantDeep(t, strings.Repeat(c[0], many), ";", strings.Repeat(c[1], many), 1+many)
			wantDeep(t, strings.Repeat(c[0], many), "a;", strings.Repeat(c[1], many), 2+many)
		}
	}
	// The value ahead of such a statement is as deep as the statement, so what is too deep first is a value within.
	for _, open := range []string{"if (a) ", "if (a) ; else ", "while (a) ", "with (a) "} {
		for many := range 40 {
			wantDeep(t, strings.Repeat(open, many), "b;", "", 2+many)
		}
	}
	for _, c := range [][2]string{
		{"!", ""}, {"typeof ", ""}, {"delete ", ""}, {"(", ")"}, {"b = ", ""}, {"f(", ")"}, {"{p: ", "}"}, {"b + f(", ")"}, {"b * (", ")"}, {"a.b = ", ""}, {"f().b(", ")"},
	} {
		for many := range 40 {
			wantDeep(t, "x = "+strings.Repeat(c[0], many), "a", strings.Repeat(c[1], many)+";", 3+many)
		}
	}
	for _, c := range [][2]string{{"f(c)(", ")"}, {"f(b, ", ")"}, {"{p: 1, q: ", "}"}} {
		for many := range 40 {
			wantDeep(t, "x = "+strings.Repeat(c[0], many)+"!", "a", strings.Repeat(c[1], many)+";", 4+many)
		}
	}
	for many := range 15 {
		wantDeep(t, "x = "+strings.Repeat("function() {return ", many), "a", strings.Repeat(";}", many)+";", 3+2*many)
		wantDeep(t, "x = "+strings.Repeat("!f(", many), "a", strings.Repeat(")", many)+";", 3+2*many)
	}
	for _, c := range [][2]string{
		{"var b = ", ";"}, {"let b = ", ";"}, {"const b = ", ";"}, {"return ", ";"}, {"throw ", ";"}, {"if (", ") ;"}, {"while (", ") ;"}, {"with (", ") ;"},
	} {
		for many := range 40 {
			wantDeep(t, strings.Repeat("{", many)+c[0], "a", c[1]+strings.Repeat("}", many), 2+many)
		}
	}
}

// wantDeep: the end stands that deep; if that is not too deep the text is a program.
func wantDeep(t *testing.T, ahead, end, behind string, deep int) {
	t.Helper()
	text := ahead + end + behind
	n, err := tree.Parse(text)
	if deep <= api.MaxDeep {
		if err != nil || n == nil {
			t.Errorf("%q: %v, %d deep", text, err, deep)
		}
		return
	}
	if e, at := plain.Place(err); e != api.ErrLimit || at < 0 || n != nil || deep == api.MaxDeep+1 && at != len(ahead) {
		t.Errorf("%q: error %d at %d, %d deep", text, e, at, deep)
	}
}

// What is not nested is not deep: signs from the left, calls and properties behind one another, statements behind one another.
func TestParseNotDeep(t *testing.T) {
	for _, c := range [][3]string{
		{"a", " + a", ";"}, {"a", ".b", ";"}, {"a", "()", ";"}, {"a", " || !b", ";"}, {"", "{}", ""}, {"", "a;", ""}, {"", "if (a) ; else ;", ""}, {"a", "(b)", ";"},
	} {
		parse(t, c[0]+strings.Repeat(c[1], 200)+c[2])
	}
}

// Where a part should begin that is too deep, that is told, whatever stands there.
func TestParseDeepShould(t *testing.T) {
	deep := strings.Repeat("{", api.MaxDeep-1)
	for _, s := range []string{
		"@a;", "@1", "return @a;", "return @)", "throw @;", "var a = @;", "if (@)", "while (@", "with (@,", "@)", "@", "{@", "{@a;}", "{@)", "{@;}",
		"function f() {@", "function f() {@;}", "try {@;}", "try {} finally {@a", "try {} catch (e) {@=",
	} {
		wantFaultAt(t, deep+s, api.ErrLimit)
	}
	for _, s := range []string{"if (a) @)", "if (a) ; else @", "while (a) @}", "with (a) @b", "with (a) {@"} {
		wantFaultAt(t, strings.Repeat("{", api.MaxDeep-2)+s, api.ErrLimit)
	}
	signs := strings.Repeat("!", api.MaxDeep-2)
	for _, s := range []string{"!@;", "!@", "typeof @)", "delete @a", "(@)", "f(@;", "{a: @}"} {
		wantFaultAt(t, signs+s, api.ErrLimit)
	}
	// Nothing should begin there.
	parse(t, signs+"f();")
	parse(t, signs+"a.b;")
	parse(t, signs+"f().b + {}.c;")
	parse(t, deep+"{}"+strings.Repeat("}", api.MaxDeep-1))
	parse(t, deep+"function f(a) {}"+strings.Repeat("}", api.MaxDeep-1))
	parse(t, deep+"try {} catch (e) {} finally {}"+strings.Repeat("}", api.MaxDeep-1))
	parse(t, deep+"return;"+strings.Repeat("}", api.MaxDeep-1))
	parse(t, deep+"let a;"+strings.Repeat("}", api.MaxDeep-1))
	wantFaultAt(t, deep+"const a@;", api.ErrForm)
	wantFaultAt(t, deep+"try {}@", api.ErrForm)
	wantFaultAt(t, deep+"function @() {}", api.ErrForm)
}

func TestParseMaxNodes(t *testing.T) {
	for _, c := range []struct {
		item  string
		nodes int
	}{{";", 1}, {"a;", 2}, {"a.b;", 3}, {"f(0);", 4}} {
		fit := (api.MaxNodes - 1) / c.nodes
		rest := strings.Repeat(";", api.MaxNodes-1-fit*c.nodes)
		n := parse(t, strings.Repeat(c.item, fit)+rest)
		many := 0
		tree.Walk(n, func(*api.Node) bool { many++; return true })
		if many != api.MaxNodes {
			t.Errorf("%d nodes", many)
		}
		wantFault(t, strings.Repeat(c.item, fit)+rest+";", api.ErrLimit, -1)
	}
	// What has a place is told first.
	wantFaultAt(t, strings.Repeat(";", api.MaxNodes)+"@)", api.ErrForm)
	wantFaultAt(t, strings.Repeat(";", api.MaxNodes)+"@1 = 2;", api.ErrArg)
	wantFaultAt(t, strings.Repeat(";", api.MaxNodes)+strings.Repeat("{", 30)+"@a", api.ErrLimit)
}

// Promise 2.4.

func TestStrict(t *testing.T) {
	find := func(n *api.Node, kind int) (found *api.Node) {
		tree.Walk(n, func(n *api.Node) bool {
			if n.Kind == kind && found == nil {
				found = n
			}
			return true
		})
		return found
	}
	for text, want := range map[string]bool{
		"'use strict';": true, "('use strict');": true, "(('use strict')); a;": true, "'use strict'; var a;": true,
		"": false, "a;": false, ";'use strict';": false, "a; 'use strict';": false, "'use  strict';": false, "'strict';": false, "strict;": false, "use_strict;": false,
		"'use strict' + a;": false, "'use strict'.a;": false, "'use strict'();": false, "!'use strict';": false, "a = 'use strict';": false, "{'use strict';}": false, "return 'use strict';": false, `'use strict\n';`: false, "if (a) 'use strict';": false,
	} {
		n := parse(t, text)
		wantText := ""
		if want {
			wantText = "strict"
		}
		if tree.Strict(n) != want || n.Text != wantText {
			t.Errorf("%q: %v, %q", text, !want, n.Text)
		}
		for _, around := range []string{"function f() {%}", "x = function() {%};", "x = function f(a) {%};", "({a: function() {%}});"} {
			n := parse(t, strings.Replace(around, "%", text, 1))
			if b := find(n, api.Block); tree.Strict(b) != want || b.Text != wantText {
				t.Errorf("%q in %q: %v, %q", text, around, !want, b.Text)
			}
			if tree.Strict(n) {
				t.Errorf("%q is strict", around)
			}
		}
		for _, around := range []string{"{%}", "try {%} finally {}", "if (a) {%}"} {
			n := parse(t, strings.Replace(around, "%", text, 1))
			if b := find(n, api.Block); tree.Strict(b) || b.Text != "" {
				t.Errorf("%q in %q is strict", text, around)
			}
		}
	}
	for _, kind := range []int{api.Catch, api.Finally} {
		n := parse(t, "try {} catch (e) {'use strict';} finally {'use strict';}")
		if b := find(n, kind).Kids[0]; tree.Strict(b) || b.Text != "" {
			t.Error("a block of try is strict")
		}
	}
	if tree.Strict(nil) {
		t.Error("nil is strict")
	}
	if n := parse(t, "strict;"); tree.Strict(find(n, api.Name)) {
		t.Error("a name is strict code")
	}
}

func TestWalk(t *testing.T) {
	n := parse(t, "function f(a) {b;} x = {p: !1}; if (c) d; else ;")
	walked := func(within func(n *api.Node) bool) string {
		var l []string
		tree.Walk(n, func(n *api.Node) bool {
			l = append(l, kinds[n.Kind]+n.Text)
			return within(n)
		})
		return strings.Join(l, " ")
	}
	for _, c := range []struct {
		within func(n *api.Node) bool
		want   string
	}{
		{func(*api.Node) bool { return true }, "program funcf params namea block expr nameb expr assign namex object propp not num if namec expr named empty"},
		{func(n *api.Node) bool { return n.Kind != api.Func }, "program funcf expr assign namex object propp not num if namec expr named empty"},
		{func(n *api.Node) bool { return n.Kind == api.Program || n.Kind == api.If }, "program funcf expr if namec expr empty"},
		{func(*api.Node) bool { return false }, "program"},
	} {
		if got := walked(c.within); got != c.want {
			t.Errorf("got %s\nwant %s", got, c.want)
		}
	}
	tree.Walk(nil, func(*api.Node) bool { t.Error("there is nothing to look at"); return true })
	tree.Walk(nil, nil)
	tree.Walk(n, nil)
	var seen []*api.Node
	tree.Walk(n.Kids[1].Kids[0], func(n *api.Node) bool { seen = append(seen, n); return true })
	if len(seen) != 6 || seen[0] != n.Kids[1].Kids[0] || seen[1] != seen[0].Kids[0] {
		t.Errorf("a part has %d nodes", len(seen))
	}
}

// P4: what is told is fresh memory, of which no two lists share any; what is read is not changed.
func TestFreshMemory(t *testing.T) {
	text := "function f(a, b) {'use strict'; return a(b, {c: 1, d: !2});} try {;} catch (e) {;;} finally {} let a = b + c * d; if (a) b; else c;"
	n, again := parse(t, text), parse(t, text)
	before := shape(n)
	own := map[*api.Node]bool{}
	tree.Walk(n, func(k *api.Node) bool {
		if own[k] {
			t.Errorf("%s stands there twice", shape(k))
		}
		own[k] = true
		_ = append(k.Kids, &api.Node{Kind: api.Empty, Text: "laid behind"})
		for i := range k.Kids[len(k.Kids):cap(k.Kids)] {
			k.Kids[len(k.Kids):cap(k.Kids)][i] = nil
		}
		return true
	})
	tree.Walk(again, func(k *api.Node) bool {
		if own[k] {
			t.Errorf("%s is of both programs", shape(k))
		}
		return true
	})
	tree.Text(n)
	tree.Strict(n)
	if shape(n) != before || shape(again) != before {
		t.Errorf("%s is now %s", before, shape(n))
	}
}

func TestTokensAreKnown(t *testing.T) {
	// Each word of the language stands in some statement.
	words := strings.Fields("var let const function if else while with return throw try catch finally typeof delete true false null undefined")
	text := tree.Text(parse(t, "var a; let b; const c = true; function f() {return false;} if (null) ; else ; while (undefined) ; with (a) ; throw typeof a; try {delete a;} catch (e) {} finally {}"))
	l, err := lex.Tokens(text)
	if err != nil {
		t.Fatal(err)
	}
	for _, w := range words {
		if !slices.ContainsFunc(l, func(k lex.Token) bool { return k.Kind == lex.Word && k.Text == w }) {
			t.Errorf("%s is not told", w)
		}
	}
}
