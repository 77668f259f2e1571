package where_test

import (
	"slices"
	"strings"
	"testing"

	"sloppyscope/api"
	"sloppyscope/plain"
	"sloppyscope/tree"
	"sloppyscope/where"
)

// Parts of a program are told of as if nothing stood around them: their numbers begin at 0.
func TestParts(t *testing.T) {
	const (
		f = "'use strict'; let a; function f(b) {var c; a; b; c; f; arguments;}"
		l = "let a; x = function f(b) {var c; a; b; c; f; arguments;};"
		c = "let a; try {a;} catch (e) {let b; var c; a; b; c; e;} finally {e; let e;}"
		w = "{let a; with (a) {let b; a; b;}}"
	)
	cases := []struct {
		text string
		kind int
		want string
	}{
		{f, api.Program, "a10=Program0 b12=Func4 c14=Func4 f16=Global arguments18=Func4"},
		{f, api.Func, "a6=Global b8=Func0 c10=Func0 f12=Global arguments14=Func0"},
		{f, api.Params, ""},
		{f, api.Block, "a3=Global b5=Global c7=Global f9=Global arguments11=Global"},
		{f, api.Let, ""},
		{f, api.Str, ""},
		{l, api.Lambda, "a6=Global b8=Lambda0 c10=Lambda0 f12=Lambda0 arguments14=Lambda0"},
		{l, api.Assign, "x1=Global a8=Global b10=Lambda2 c12=Lambda2 f14=Lambda2 arguments16=Lambda2"},
		{c, api.Try, "a3=Global a9=Global b11=Block5 c13=Global e15=Catch4 e19=Block17"},
		{c, api.Catch, "a5=Global b7=Block1 c9=Global e11=Catch0"},
		{c, api.Finally, "e3=Block1"},
		{c, api.Name, "a0=Global"},
		{w, api.With, "a1=Global a5=Global? b7=Block2"},
		{w, api.Block, "a3=Block0 a7=Block0? b9=Block4"},
		{"{let a = a;}", api.Let, "a1=Global"},
		{"let a = {a: a};", api.Prop, "a1=Global"},
		// A parameter alone is a Name, like any other.
		{"function f(a) {}", api.Name, "a0=Global"},
		// What is around no longer counts.
		{"with (1) {a;}", api.Block, "a2=Global"},
		{"function f() {eval(); a;}", api.Block, "eval3=Global a5=Global"},
		{"function f() {eval(); a;}", api.Func, "eval5=Global? a7=Global?"},
		{"'use strict'; function f() {eval(); a;}", api.Func, "eval5=Global? a7=Global?"},
		{"function f() {'use strict'; eval(); a;}", api.Func, "eval7=Global a9=Global"},
		// A function's Block alone is a Block, but strict code as it was.
		{"function f() {let a; var b; a; b;}", api.Block, "a4=Block0 b6=Global"},
		{"function f() {'use strict'; (function() {eval(); a;});}", api.Block, "eval9=Global a11=Global"},
		{"function f() {(function() {eval(); a;});}", api.Block, "eval7=Global? a9=Global?"},
	}
	for _, c := range cases {
		n := first(t, c.text, c.kind)
		if got := told(n, where.Of(n)); got != c.want {
			t.Errorf("%s, kind %d\n\ttold %s\n\twant %s", c.text, c.kind, got, c.want)
		}
	}
}

// P1: every part of a program can be asked.
func TestEveryPart(t *testing.T) {
	n := parse(t, "'use strict'; var a = 1; let b; const c = 's'; function f(a, b) {return a.b; return;} {;} if (!a) throw typeof b; else delete c; while (a < b) with (f) x = {p: true, q: null}; try {a(b, undefined);} catch (e) {e === false;} finally {(function g() {a + b - c * e || f && g;});}")
	kinds := map[int]int{}
	for _, k := range nodes(n) {
		kinds[k.Kind]++
		where.Of(k)
		where.Evals(k)
	}
	for kind := api.Program; kind <= api.Params; kind++ {
		if kinds[kind] == 0 {
			t.Errorf("no node of kind %d was asked", kind)
		}
	}
}

// P4: what comes out is the caller's, and what goes in stays as it is.
func TestFresh(t *testing.T) {
	const text = "let a; function f(b) {eval(a, b); return (function g() {a + b + g; with (f) arguments;});}"
	n := parse(t, text)
	one := where.Of(n)
	want := slices.Clone(one)
	for i := range one {
		one[i] = where.Use{At: -7, Scope: -7}
	}
	one = append(one[:0], where.Use{})
	if got := where.Of(n); !slices.Equal(got, want) {
		t.Errorf("asked again: %v, want %v", got, want)
	}
	if !plain.Same(n, parse(t, text)) {
		t.Error("the program was changed")
	}
}

// Programs at their bounds.
func TestGreat(t *testing.T) {
	many := strings.Repeat("a;", 700)
	uses := where.Of(parse(t, many))
	if len(uses) != 700 || uses[0] != (where.Use{At: 2, Scope: -1, Sure: true}) || uses[699] != (where.Use{At: 1400, Scope: -1, Sure: true}) {
		t.Errorf("%d uses", len(uses))
	}
	deep := strings.Repeat("{let a;", api.MaxDeep-2) + "a;" + strings.Repeat("}", api.MaxDeep-2)
	n := parse(t, deep)
	uses = where.Of(n)
	inner := 2*(api.MaxDeep-3) + 1
	if len(uses) != 1 || uses[0].Scope != inner || !uses[0].Sure {
		t.Errorf("%v, want the scope of node %d", uses, inner)
	}
	within := strings.Repeat("with (1) ", api.MaxDeep-2) + "a;"
	if got := where.Of(parse(t, within)); len(got) != 1 || got[0].Scope != -1 || got[0].Sure {
		t.Errorf("%v, want one that is not sure", got)
	}
	bangs, err := tree.Parse(strings.Repeat("!", 28) + "eval();")
	if err != nil || !where.Evals(bangs) {
		t.Errorf("a deep call: %v", err)
	}
}
