package tree_test

import (
	"math/rand"
	"strings"
	"testing"

	"sloppyscope/api"
	"sloppyscope/lex"
	"sloppyscope/plain"
	"sloppyscope/tree"
)

// wantText: what the text's program is written as, and that this is the same program again.
func wantText(t *testing.T, text, want string) {
	t.Helper()
	n := parse(t, text)
	if got := tree.Text(n); got != want {
		t.Errorf("%q:\n got %q\nwant %q", text, got, want)
	} else if again := parse(t, got); !plain.Same(n, again) {
		t.Errorf("%q is %s, %q is %s", text, shape(n), got, shape(again))
	}
}

// Promise 2.5. Each of these is written as it stands here.
func TestTextStands(t *testing.T) {
	for _, s := range []string{
		"", "a;", "var a;", "var a = 1;", "let a;", "let a = b = 2;", "const a = 'b';",
		"function f() {}", "function f(a, b) {return a;}", "{}", "{a;}", "{a; {} b;}", "{{}}",
		"if (a) b;", "if (a) b = 1; else {}", "if (a) {b;} else if (c) d; else e;", "while (a) {}", "while (a < 1) a = a + 1;", "with (a) b;", "with ({a: 1}) {print(a);}",
		"return;", "return a;", "throw a;", "return !a;", "return (a = b)(c);", "throw {a: 1};", "return function() {};",
		"try {} catch (e) {}", "try {} finally {}", "try {a;} catch (e) {b;} finally {c;}",
		";", "{;}", "{; ;}", "{a; ;}", "{; a;}", "if (a) ;", "if (a) ; else ;", "while (a) ;", "with (a) ;", "{if (a) ;}", "{{} ;}", "function f() {;}", "try {;} catch (e) {;} finally {; ;}", "{; {;} ;}", "if (a) {;}", "if (a) {} else ;",
		"0;", "1000000000;", "'';", `'\n\'\\';`, `'\\n';`, `'\\\\\'';`, "'a b';", "true;", "false;", "null;", "undefined;",
		"a = b;", "a = b = c;", "a.b = c;", "a + b - c * d;", "a || b && c === d < e + f * g;", "g * f + e < d === c && b || a;",
		"!a;", "!!a;", "typeof a;", "delete a.b;", "typeof !delete a;", "!typeof a;", "!a.b;", "!f(a);", "!a + b;", "a + !b;", "a + typeof b;", "typeof 'a';", "delete {};",
		"a.b;", "a.b.c;", "a();", "a(b);", "a(b, c);", "a.b(c)(d).e;", "a(b = c, d);", "a(b)(c);", "1.a;", "1();", "'s'.length;", "true.a;",
		"a = function() {};", "a = function f(b, c) {return b;};", "f(function() {}, {});", "a = function() {}();", "a = function() {}.b;", "!function() {};", "f(function() {});",
		"a = {};", "a = {b: 1};", "a = {b: 1, c: {}};", "a = {b: c = 1};", "a = {}.b;", "a = {b: {c: {d: 1}}};", "a + {};", "a || function() {};",
	} {
		line := s + "\n"
		if s == "" {
			line = ""
		}
		wantText(t, s, line)
	}
}

func TestTextParentheses(t *testing.T) {
	for _, c := range [][2]string{
		// Where they must be.
		{"(a = b) + 1;", "(a = b) + 1;"}, {"1 + (a = b);", "1 + (a = b);"}, {"a || (b = c);", "a || (b = c);"},
		{"a - (b - c);", "a - (b - c);"}, {"a + (b + c);", "a + (b + c);"}, {"a || (b || c);", "a || (b || c);"}, {"a && (b && c);", "a && (b && c);"}, {"a === (b === c);", "a === (b === c);"}, {"a < (b < c);", "a < (b < c);"}, {"a * (b * c);", "a * (b * c);"},
		{"(a || b) && c;", "(a || b) && c;"}, {"a && (b || c);", "a && (b || c);"}, {"(a + b) * c;", "(a + b) * c;"}, {"a * (b - c);", "a * (b - c);"}, {"(a === b) < c;", "(a === b) < c;"}, {"(a && b) === c;", "(a && b) === c;"},
		{"!(a + b);", "!(a + b);"}, {"!(a = b);", "!(a = b);"}, {"typeof (a + b);", "typeof (a + b);"}, {"delete (a || b);", "delete (a || b);"}, {"typeof (a * b);", "typeof (a * b);"},
		{"(!a).b;", "(!a).b;"}, {"(!a)();", "(!a)();"}, {"(typeof a).b;", "(typeof a).b;"}, {"(a + b).c;", "(a + b).c;"}, {"(a = b)(c);", "(a = b)(c);"}, {"(0 || eval)('a');", "(0 || eval)('a');"}, {"(a = b).c = d;", "(a = b).c = d;"}, {"(a * b).c();", "(a * b).c();"},
		{"!(!a).b;", "!(!a).b;"}, {"a = (b = c) + d;", "a = (b = c) + d;"}, {"((a = b) + c) * d;", "((a = b) + c) * d;"},
		// Nowhere else.
		{"(a);", "a;"}, {"((a));", "a;"}, {"(1);", "1;"}, {"a = (b);", "a = b;"}, {"a = (b = c);", "a = b = c;"}, {"(a = b);", "a = b;"}, {"(a) = b;", "a = b;"}, {"(a.b) = c;", "a.b = c;"}, {"(a).b;", "a.b;"}, {"(a)(b);", "a(b);"}, {"(a.b)(c);", "a.b(c);"}, {"(a(b)).c;", "a(b).c;"},
		{"(a + b) + c;", "a + b + c;"}, {"(a - b) + c;", "a - b + c;"}, {"a + (b * c);", "a + b * c;"}, {"(a * b) - c;", "a * b - c;"}, {"a || (b && c);", "a || b && c;"}, {"(a < b) === c;", "a < b === c;"}, {"a + (!b);", "a + !b;"}, {"(!a) * b;", "!a * b;"},
		{"!(a);", "!a;"}, {"!(!a);", "!!a;"}, {"!(a.b);", "!a.b;"}, {"typeof (a);", "typeof a;"}, {"typeof (a());", "typeof a();"}, {"delete (a.b);", "delete a.b;"}, {"!(typeof a);", "!typeof a;"},
		{"f((a));", "f(a);"}, {"f((a = b), (c || d));", "f(a = b, c || d);"}, {"a = {b: (c = d)};", "a = {b: c = d};"}, {"if ((a)) b;", "if (a) b;"}, {"if ((a = b)) ;", "if (a = b) ;"}, {"return (a = b);", "return a = b;"}, {"var a = (b || c);", "var a = b || c;"},
		{"a = (function() {});", "a = function() {};"}, {"a = (function() {})();", "a = function() {}();"}, {"a = ({});", "a = {};"}, {"a = ({}).b;", "a = {}.b;"}, {"return ({});", "return {};"}, {"!({});", "!{};"}, {"f(({}));", "f({});"},
		// Around all of an Expr that would begin with { or function.
		{"({});", "({});"}, {"({a: 1, b: {}});", "({a: 1, b: {}});"}, {"(function() {});", "(function() {});"}, {"(function f(a, b) {return a;});", "(function f(a, b) {return a;});"},
		{"(function() {})();", "(function() {}());"}, {"(function() {}());", "(function() {}());"}, {"(function() {})(a)(b);", "(function() {}(a)(b));"}, {"({}).a;", "({}.a);"}, {"({}).a = 1;", "({}.a = 1);"}, {"({}) + a;", "({} + a);"}, {"({}) + a * b || c;", "({} + a * b || c);"}, {"(function() {} || a) && b;", "(function() {} || a) && b;"}, {"({}.a = b) + 1;", "({}.a = b) + 1;"}, {"({}.a = b).c;", "({}.a = b).c;"}, {"({}) < a === b;", "({} < a === b);"},
		{"if (a) ({}).b;", "if (a) ({}.b);"}, {"{(function() {})();}", "{(function() {}());}"}, {"functions;", "functions;"}, {"function_a();", "function_a();"}, {"'{';", "'{';"}, {"'function'.a;", "'function'.a;"},
	} {
		wantText(t, c[0], c[1]+"\n")
	}
}

func TestTextLines(t *testing.T) {
	wantText(t, "a;b;", "a;\nb;\n")
	wantText(t, ";;", ";\n;\n")
	wantText(t, "{a;b;}c;", "{a; b;}\nc;\n")
	wantText(t, "function f(){a;\n\nb;} f();", "function f() {a; b;}\nf();\n")
	wantText(t, "'a\\nb';;", "'a\\nb';\n;\n")
	wantText(t, "('use strict'); with(a)b;", "'use strict';\nwith (a) b;\n")
	wantText(t, "if(a)b=1;else{}", "if (a) b = 1; else {}\n")
	wantText(t, "try{a;;}catch(e){;b;}finally{}", "try {a; ;} catch (e) {; b;} finally {}\n")
}

func TestTextOfNoProgram(t *testing.T) {
	if s := tree.Text(nil); s != "" {
		t.Errorf("of nil: %q", s)
	}
	tree.Walk(parse(t, "function f(a) {try {a(1, !'b');} catch (e) {;} finally {if (a) return; else throw {p: b = c};}} while (x) with (y) let z = true;"), func(n *api.Node) bool {
		if s := tree.Text(n); n.Kind != api.Program && s != "" {
			t.Errorf("of %s: %q", shape(n), s)
		}
		return true
	})
}

// maker makes nodes that some program has, of any kinds within each other.
type maker struct{ *rand.Rand }

func (m maker) name() string { return []string{"a", "b", "f", "x_1", "strict", "functions"}[m.Intn(6)] }

func make1(kind int, text string, kids ...*api.Node) *api.Node {
	return &api.Node{Kind: kind, Text: text, Kids: kids}
}

func (m maker) value(deep int) *api.Node {
	if deep <= 0 {
		switch m.Intn(4) {
		case 0:
			return &api.Node{Kind: api.Num, N: m.Intn(3)}
		case 1:
			return make1(api.Str, []string{"", "a", "\n", "'", "\\", "\\n", "{", "use strict"}[m.Intn(8)])
		case 2:
			return make1(api.True+m.Intn(4), "")
		}
		return make1(api.Name, m.name())
	}
	v := func() *api.Node { return m.value(deep - 1 - m.Intn(2)) }
	switch m.Intn(8) {
	case 0:
		left := make1(api.Name, m.name())
		if m.Intn(2) == 0 {
			left = make1(api.Member, m.name(), v())
		}
		return make1(api.Assign, "", left, v())
	case 1, 2:
		return make1(api.Or+m.Intn(7), "", v(), v())
	case 3:
		return make1(api.Not+m.Intn(3), "", v())
	case 4:
		n := make1(api.Call, "", v())
		for range m.Intn(3) {
			n.Kids = append(n.Kids, v())
		}
		return n
	case 5:
		return make1(api.Member, m.name(), v())
	case 6:
		n := make1(api.Object, "")
		for range m.Intn(3) {
			n.Kids = append(n.Kids, make1(api.Prop, m.name(), v()))
		}
		return n
	}
	return m.function(api.Lambda, []string{"", m.name()}[m.Intn(2)], deep)
}

func (m maker) function(kind int, name string, deep int) *api.Node {
	p := make1(api.Params, "")
	for range m.Intn(3) {
		p.Kids = append(p.Kids, make1(api.Name, m.name()))
	}
	return make1(kind, name, p, mark(m.block(deep-1)))
}

// mark gives strict code its Text.
func mark(n *api.Node) *api.Node {
	if len(n.Kids) > 0 && n.Kids[0].Kind == api.Expr && n.Kids[0].Kids[0].Kind == api.Str && n.Kids[0].Kids[0].Text == "use strict" {
		n.Text = "strict"
	}
	return n
}

func (m maker) block(deep int) *api.Node {
	n := make1(api.Block, "")
	for range m.Intn(4) {
		n.Kids = append(n.Kids, m.statement(deep-1))
	}
	return n
}

func (m maker) statement(deep int) *api.Node {
	v := func() *api.Node { return m.value(min(deep, 3)) }
	if deep <= 0 {
		return []*api.Node{make1(api.Empty, ""), make1(api.Expr, "", v()), make1(api.Return, ""), make1(api.Var+m.Intn(2), m.name())}[m.Intn(4)]
	}
	switch m.Intn(11) {
	case 0:
		return make1(api.Var+m.Intn(3), m.name(), v())
	case 1:
		return m.function(api.Func, m.name(), deep)
	case 2:
		return m.block(deep)
	case 3:
		return make1(api.If, "", v(), m.statement(deep-1))
	case 4: // An else is of the nearest if that has none: a block keeps them apart.
		return make1(api.If, "", v(), m.block(deep), m.statement(deep-1))
	case 5:
		return make1(api.While+m.Intn(2), "", v(), m.statement(deep-1))
	case 6:
		return make1(api.Return+m.Intn(2), "", v())
	case 7:
		return make1(api.Try, "", m.block(deep), make1(api.Catch, m.name(), m.block(deep)))
	case 8:
		return make1(api.Try, "", m.block(deep), make1(api.Finally, "", m.block(deep)))
	case 9:
		return make1(api.Try, "", m.block(deep), make1(api.Catch, m.name(), m.block(deep)), make1(api.Finally, "", m.block(deep)))
	}
	return make1(api.Expr, "", v())
}

func (m maker) program() *api.Node {
	n := make1(api.Program, "")
	for range 1 + m.Intn(3) {
		n.Kids = append(n.Kids, m.statement(m.Intn(5)))
	}
	return mark(n)
}

// eachMade goes through programs, and their texts, that are not too large to be read.
func eachMade(t *testing.T, look func(n *api.Node, text string)) {
	m := maker{rand.New(rand.NewSource(1))}
	read := 0
	for range 4000 {
		n := m.program()
		text := tree.Text(n)
		got, err := tree.Parse(text)
		if err != nil {
			if api.Tell(err) != api.ErrLimit {
				t.Fatalf("%s is written %q: %v", shape(n), text, err)
			}
			continue
		}
		read++
		if !plain.Same(n, got) {
			t.Fatalf("%s\nis written %q, which is\n%s", shape(n), text, shape(got))
		}
		look(n, text)
	}
	if read < 3500 {
		t.Errorf("only %d were read", read)
	}
}

// What a program's text tells is that again, node by node; each parenthesis must be there; each statement has its line.
func TestTextTellsTheProgram(t *testing.T) {
	eachMade(t, func(n *api.Node, text string) {
		if lines := strings.Count(text, "\n"); lines != len(n.Kids) || lines > 0 && !strings.HasSuffix(text, "\n") {
			t.Fatalf("%q has %d lines for %d statements", text, lines, len(n.Kids))
		}
		if len(text) > 400 {
			return
		}
		for _, p := range pairs(t, text) {
			b := []byte(text)
			b[p[0]], b[p[1]] = ' ', ' '
			if other, err := tree.Parse(string(b)); err == nil && plain.Same(n, other) {
				t.Fatalf("%q needs no parentheses at %d and %d", text, p[0], p[1])
			}
		}
	})
}

// pairs are the places of the parentheses of a text.
func pairs(t *testing.T, text string) (l [][2]int) {
	tokens, err := lex.Tokens(text)
	if err != nil {
		t.Fatal(err)
	}
	var open []int
	for _, k := range tokens {
		if k.Kind == lex.Sign && k.Text == "(" {
			open = append(open, k.At)
		}
		if k.Kind == lex.Sign && k.Text == ")" {
			l = append(l, [2]int{open[len(open)-1], k.At})
			open = open[:len(open)-1]
		}
	}
	return l
}

// Two tokens have one blank or nothing between them, by what they are.
func TestTextBlanks(t *testing.T) {
	eachMade(t, func(n *api.Node, text string) {
		for _, line := range strings.SplitAfter(text, "\n") {
			line = strings.TrimSuffix(line, "\n")
			tokens, err := lex.Tokens(line)
			if err != nil {
				t.Fatal(err)
			}
			end := 0
			for i, k := range tokens {
				gap := line[end:k.At]
				if i > 0 && k.Kind != lex.End && !gapFits(line, tokens, i, gap) || i == 0 && gap != "" || k.Kind == lex.End && gap != "" {
					t.Fatalf("%q: %q ahead of byte %d", line, gap, k.At)
				}
				end = k.At + len(written(k))
			}
		}
	})
}

func written(k lex.Token) string {
	switch k.Kind {
	case lex.String:
		return "'" + strings.NewReplacer("\n", `\n`, "'", `\'`, `\`, `\\`).Replace(k.Text) + "'"
	case lex.Number:
		return string(rune('0' + k.N))
	}
	return k.Text
}

// gapFits says whether what stands ahead of a token may stand there; of ( and ; behind some tokens it may be either.
func gapFits(line string, tokens []lex.Token, i int, gap string) bool {
	sign := func(i int, signs string) bool {
		return tokens[i].Kind == lex.Sign && strings.Contains(" "+signs+" ", " "+tokens[i].Text+" ")
	}
	word := func(i int, words string) bool {
		return tokens[i].Kind == lex.Word && strings.Contains(" "+words+" ", " "+tokens[i].Text+" ")
	}
	before := i - 1
	switch {
	case sign(before, "( ! . {") || sign(i, ", ) : . }"):
		return gap == ""
	case sign(i, ";"):
		if sign(before, "; ) }") || word(before, "else") {
			return gap == "" || gap == " "
		}
		return gap == ""
	case sign(i, "("):
		if word(before, "function") || tokens[before].Kind == lex.Name || tokens[before].Kind == lex.Number || tokens[before].Kind == lex.String {
			return gap == ""
		}
		if sign(before, ") }") {
			return gap == "" || gap == " "
		}
		return gap == " " || word(before, "true false null undefined") && gap == ""
	}
	return gap == " "
}

// P1: whatever it is given, Parse ends; what it reads is written so that it is read again.
func FuzzParse(f *testing.F) {
	f.Add("function f(a) {'use strict'; return !a.b(c = {d: 1}) + 2;}")
	f.Add("if (a) ; else while (b) with (c) try {} catch (e) {} finally {throw (a = b).c;}")
	f.Add("(((")
	f.Fuzz(func(t *testing.T, text string) {
		n, err := tree.Parse(text)
		if err != nil {
			e, at := plain.Place(err)
			if n != nil || e <= api.OK || at < -1 || at > len(text) || at == -1 && e != api.ErrLimit {
				t.Fatalf("%s, error %d at %d", shape(n), e, at)
			}
			return
		}
		said := tree.Text(n)
		again, err := tree.Parse(said)
		if err != nil && api.Tell(err) == api.ErrLimit {
			return
		}
		if err != nil || !plain.Same(n, again) || tree.Text(again) != said {
			t.Fatalf("%q is written %q: %v", text, said, err)
		}
	})
}
