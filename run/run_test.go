package run_test

import (
	"slices"
	"strings"
	"testing"

	"sloppyscope/api"
	"sloppyscope/early"
	"sloppyscope/plain"
	"sloppyscope/run"
	"sloppyscope/tree"
)

// Promise 6.1, and P1 to P4 of the whole chapter.

// parse is the program of a text that has no fault.
func parse(t *testing.T, text string) *api.Node {
	t.Helper()
	n, err := tree.Parse(text)
	if err != nil || n == nil {
		e, at := plain.Place(err)
		t.Fatalf("%.300q: error %d at %d", text, e, at)
	}
	return n
}

// do is what a program did that nothing is wrong with.
func do(t *testing.T, text string) run.Result {
	t.Helper()
	r, err := run.Run(parse(t, text))
	if err != nil {
		t.Fatalf("%.300s: error %d", text, api.Tell(err))
	}
	return r
}

// told is what a program printed, and how it ended, with `; ` between.
func told(r run.Result) string {
	end := "no end"
	switch {
	case r.Code == run.Done && r.Value == "":
		end = "done"
	case r.Code == run.Thrown:
		end = "throws " + r.Value
	case r.Code == run.Stopped && r.Value == "":
		end = "stopped"
	}
	return strings.Join(append(slices.Clone(r.Log), end), "; ")
}

// did is a program's text, and what is told of it.
type did struct{ text, want string }

func wantDid(t *testing.T, cases []did) {
	t.Helper()
	for _, c := range cases {
		if got := told(do(t, c.text)); got != c.want {
			t.Errorf("%.400s\n\tdid  %.300s\n\twant %.300s", c.text, got, c.want)
		}
	}
}

// wantThrown: programs that print nothing, and throw one word.
func wantThrown(t *testing.T, word string, texts ...string) {
	t.Helper()
	for _, s := range texts {
		wantDid(t, []did{{s, "throws " + word}})
	}
}

// wantShown: values, each printed alone.
func wantShown(t *testing.T, shown string, values ...string) {
	t.Helper()
	for _, v := range values {
		wantDid(t, []did{{"print(" + v + ");", shown + "; done"}})
	}
}

func same(a, b run.Result) bool {
	return slices.Equal(a.Log, b.Log) && a.Code == b.Code && a.Value == b.Value && a.Steps == b.Steps && slices.Equal(a.Seen, b.Seen)
}

func TestNumbersOfEnds(t *testing.T) {
	if run.Done != 1 || run.Thrown != 2 || run.Stopped != 3 {
		t.Error("ends", run.Done, run.Thrown, run.Stopped)
	}
	if run.Global != -1 || run.Object != -2 || run.Evaled != -3 {
		t.Error("owners", run.Global, run.Object, run.Evaled)
	}
}

func TestNumber(t *testing.T) {
	for _, s := range []string{"", ";", "a;", "function f(a, b) {return a + b;}", "try {} catch (e) {let a = {b: function() {}};} finally {with (a) ;}"} {
		n := parse(t, s)
		numbers := run.Number(n)
		next := 0
		tree.Walk(n, func(k *api.Node) bool {
			if got, ok := numbers[k]; !ok || got != next {
				t.Errorf("%s: node %d has the number %d (%v)", s, next, got, ok)
			}
			next++
			return true
		})
		if len(numbers) != next {
			t.Errorf("%s: %d numbers for %d nodes", s, len(numbers), next)
		}
	}
	n := parse(t, "function f(a) {return a;}")
	body := n.Kids[0].Kids[1]
	if got := run.Number(n)[body.Kids[0].Kids[0]]; got != 6 {
		t.Errorf("the use of a has the number %d, want 6", got)
	}
	if got := run.Number(body); got[body] != 0 || len(got) != 3 {
		t.Errorf("a part has the number %d, of %d", got[body], len(got))
	}
	if got := run.Number(nil); len(got) != 0 {
		t.Errorf("nil has %d numbers", len(got))
	}
}

func TestNumberIsTheCallers(t *testing.T) {
	n := parse(t, "a;")
	first := run.Number(n)
	clear(first)
	if got := run.Number(n); len(got) != 3 {
		t.Errorf("%d numbers behind a caller's change, want 3", len(got))
	}
	run.Number(nil)[n] = 1
}

// wantNoResult: with an error, all else is nothing.
func wantNoResult(t *testing.T, what string, r run.Result) {
	t.Helper()
	if len(r.Log) != 0 || r.Code != 0 || r.Value != "" || r.Steps != 0 || len(r.Seen) != 0 {
		t.Errorf("%s: %v beside an error", what, r)
	}
}

func TestNoProgram(t *testing.T) {
	r, err := run.Run(nil)
	if err != error(api.ErrMissing) {
		t.Errorf("nil: error %d, want %d", api.Tell(err), api.ErrMissing)
	}
	wantNoResult(t, "nil", r)
}

func TestRefused(t *testing.T) {
	cases := []struct {
		text string
		want api.Errno
	}{
		{"return;", api.ErrState},
		{"print(1); return 1;", api.ErrState},
		{"let a; let a;", api.ErrTwice},
		{"print(1); {let a; var a;}", api.ErrTwice},
		{"function f(a) {let a;}", api.ErrTwice},
		{"if (true) let a;", api.ErrArg},
		{"'use strict'; with ({}) ;", api.ErrArg},
		{"'use strict'; delete a;", api.ErrArg},
		{"'use strict'; eval = 1;", api.ErrName},
		{"function f() {'use strict'; var arguments;}", api.ErrName},
	}
	for _, c := range cases {
		n := parse(t, c.text)
		r, err := run.Run(n)
		if err != error(c.want) || err != early.Check(n, false, false) {
			t.Errorf("%s: error %d, want %d", c.text, api.Tell(err), c.want)
		}
		wantNoResult(t, c.text, r)
	}
}

// What is wrong in strict code alone, or outside of functions alone, is right where it isn't so.
func TestNotRefused(t *testing.T) {
	wantDid(t, []did{
		{"with ({a: 1}) print(a);", "1; done"},
		{"print(delete a);", "true; done"},
		{"var eval = 1; print(eval);", "1; done"},
		{"function f() {return 1;} print(f());", "1; done"},
	})
}

func TestDone(t *testing.T) {
	wantDid(t, []did{
		{"", "done"},
		{";", "done"},
		{"1; 'a'; undefined;", "done"},
		{"print(1); print(2);", "1; 2; done"},
	})
	if r := do(t, ""); r.Steps != 0 || len(r.Seen) != 0 || len(r.Log) != 0 {
		t.Errorf("nothing: %v", r)
	}
}

func TestThrown(t *testing.T) {
	wantDid(t, []did{
		{"throw 1;", "throws 1"},
		{"throw 0 - 1;", "throws -1"},
		{"throw 'x y';", "throws x y"},
		{"throw 'a\\nb';", "throws a\nb"},
		{"throw '';", "throws "},
		{"throw undefined;", "throws undefined"},
		{"throw null;", "throws null"},
		{"throw true;", "throws true"},
		{"throw {a: 1};", "throws object"},
		{"throw function() {};", "throws function"},
		{"throw print;", "throws function"},
		{"print(1); throw 2; print(3);", "1; throws 2"},
		{"function f() {throw 'in';} print(1); f(); print(2);", "1; throws in"},
		{"a;", "throws reference"},
	})
}

// steps: N is how often the loop goes round; 6 + 8N steps.
const (
	loop      = "var i = 0; while (i < 2499) i = i + 1;"
	loopSteps = 6 + 8*2499 // 19998
)

func wantSteps(t *testing.T, text string, code, steps int) {
	t.Helper()
	if r := do(t, text); r.Code != code || r.Steps != steps {
		t.Errorf("%.200s: ended %d after %d steps, want %d after %d", text, r.Code, r.Steps, code, steps)
	}
}

func TestStopped(t *testing.T) {
	wantSteps(t, loop, run.Done, loopSteps)
	wantSteps(t, loop+"1;", run.Done, api.MaxSteps)
	wantSteps(t, loop+";;", run.Done, api.MaxSteps)
	wantSteps(t, loop+"throw 1;", run.Thrown, api.MaxSteps)
	wantSteps(t, loop+"{;}", run.Done, api.MaxSteps)
	for _, tail := range []string{";;;", ";1;", "1;;", "!1;", "{;;}", "if (1) ;", "print(1);", "try {;} finally {}", ";throw 1;"} {
		wantSteps(t, loop+tail, run.Stopped, api.MaxSteps+1)
	}
	for _, s := range []string{
		"while (true) ;", "while (1) {}", "while (true) print;", "function f() {while (true) ;} f();", "eval('while (true) ;');",
		"while (true) try {throw 1;} catch (e) {}", "while (true) try {eval('(');} catch (e) {}",
	} {
		wantSteps(t, s, run.Stopped, api.MaxSteps+1)
	}
}

// Nothing more is done when a program is stopped, whatever is around.
func TestStoppedInside(t *testing.T) {
	wantDid(t, []did{
		{"print(1); while (true) ; print(2);", "1; stopped"},
		{"try {while (true) ;} catch (e) {print(e);}", "stopped"},
		{"try {while (true) ;} finally {print(1);}", "stopped"},
		{"try {while (true) ;} catch (e) {print(e);} finally {print(1);} print(2);", "stopped"},
		{"function f() {try {while (true) ;} finally {return 1;}} print(f());", "stopped"},
		{"try {throw 1;} catch (e) {while (true) ;} finally {print(1);}", "stopped"},
		{"try {throw 1;} finally {while (true) ;}", "stopped"},
		{"try {eval('try {while (true) ;} finally {print(1);}');} finally {print(2);}", "stopped"},
		{"print((function() {while (true) ;})());", "stopped"},
		{"with ({}) {while (true) ;} print(1);", "stopped"},
		{loop + "print(1);", "stopped"},
	})
}

func TestSteps(t *testing.T) {
	cases := []struct {
		text  string
		steps int
	}{
		{"", 0}, {";", 1}, {";;", 2}, {"{}", 1}, {"{;;}", 3}, {"{{}}", 2},
		{"var a;", 1}, {"var a = 1;", 2}, {"let a;", 1}, {"let a = 1;", 2}, {"const a = 1;", 2},
		{"function f() {1; 2;}", 1}, {"{let a; function f() {}}", 3},
		{"if (1) ;", 3}, {"if (0) ;", 2}, {"if (1) ; else {;}", 3}, {"if (0) ; else {;}", 4},
		{"while (0) ;", 2}, {"with ({}) ;", 3}, {"with ({a: 1, b: 2}) ;", 5},
		{"1;", 2}, {"'a';", 2}, {"true; false; null; undefined;", 8}, {"print;", 2}, {"((1));", 2},
		{"a = 1;", 3}, {"var a; a = 1;", 4}, {"a = b = 1;", 4},
		{"var a = {}; a.b = 1;", 6}, {"({}).b = 1;", 4}, {"({}).b;", 3},
		{"1 || 2;", 3}, {"0 || 2;", 4}, {"1 && 2;", 4}, {"0 && 2;", 3},
		{"1 === 2;", 4}, {"1 < 2;", 4}, {"1 + 2;", 4}, {"1 - 2;", 4}, {"1 * 2;", 4}, {"1 + 2 * 3;", 6},
		{"!1;", 3}, {"!!1;", 4}, {"typeof 1;", 3}, {"typeof a;", 2}, {"typeof print;", 3}, {"typeof (a);", 2}, {"typeof ({}).a;", 4},
		{"delete a;", 2}, {"var a; delete a;", 3}, {"delete 1;", 3}, {"delete ({}).a;", 3}, {"delete print();", 4},
		{"({});", 2}, {"({a: 1, b: {}});", 4}, {"(function() {1;});", 2}, {"(function f(a) {1;});", 2},
		{"print();", 3}, {"print(1, 2);", 5},
		{"(function() {})();", 3}, {"(function(a, b) {;})(1, 2);", 6}, {"(function(a, b) {var c; let d; function e() {}})();", 6},
		{"function f() {} f();", 4}, {"function f() {return;} f();", 5}, {"function f() {return 1; 2;} f();", 6},
		{"try {} finally {}", 3}, {"try {} catch (e) {}", 2}, {"try {;} catch (e) {;}", 3}, {"try {} catch (e) {} finally {;}", 4},
		{"try {throw 1;} catch (e) {}", 5}, {"try {throw 1;} catch (e) {} finally {}", 6},
		{"eval();", 3}, {"eval(1);", 4}, {"eval('');", 4}, {"eval(';');", 5}, {"eval('1;');", 6}, {"eval('let a = 1; var b = 2;');", 8}, {"eval('function f() {}');", 5},
	}
	for _, c := range cases {
		wantSteps(t, c.text, run.Done, c.steps)
	}
}

// Steps that were taken ahead of what is thrown count, and none behind it.
func TestStepsUpToThrown(t *testing.T) {
	cases := []struct {
		text  string
		steps int
	}{
		{"throw 1; 2;", 2}, {"a;", 2}, {"a + 1;", 3}, {"1 + a;", 4}, {"a();", 3}, {"a(1);", 3}, {"1();", 3}, {"1(2);", 4},
		{"a.b;", 3}, {"undefined.b;", 3}, {"undefined.b = 1;", 4}, {"a.b = 1;", 3}, {"delete a.b;", 3}, {"delete undefined.b;", 3}, {"undefined.b.c;", 4},
		{"with (1) ;", 2}, {"{a; let a;}", 3}, {"{typeof a; let a;}", 4}, {"{a = 1; let a;}", 4}, {"eval('(');", 4}, {"eval('1; throw 2; 3;');", 8}, {"if (a) ;", 2},
		{"let a = b;", 2}, {"try {throw 1;} finally {;}", 6},
	}
	for _, c := range cases {
		wantSteps(t, c.text, run.Thrown, c.steps)
	}
}

// texts are programs of all kinds.
func texts() []string {
	return []string{
		"", ";", "var a = 1; let b = 2; const c = 3; print(a, b, c);",
		"function f(a, b) {var c = a; let d = b; if (a) return c + d; else while (d) {d = 0;}} print(f(1, 2), f(0, 1));",
		"(function f(a) {'use strict'; try {return f.b.c;} catch (e) {return e;} finally {print(a);}})({a: !1, b: typeof 2});",
		"with ({x: 1}) {var x = 2; delete x; {let y = x; function g() {return y;} print(g() === y || 1 < 2 && 3 - 1 * 2);}}",
		"eval('var q = 1; let w = 2; print(q, w);'); throw null;",
		"return 1;", "let a; var a;", "while (true) {}",
	}
}

// P1: of a program's parts, too, nothing panics, and what is no code does nothing.
func TestParts(t *testing.T) {
	for _, s := range texts() {
		tree.Walk(parse(t, s), func(n *api.Node) bool {
			r, err := run.Run(n)
			if want := early.Check(n, false, false); err != want {
				t.Errorf("%s: node of kind %d: error %d, want %d", s, n.Kind, api.Tell(err), api.Tell(want))
			}
			if err != nil {
				wantNoResult(t, s, r)
			} else if n.Kind != api.Program && n.Kind != api.Block && (r.Code != run.Done || r.Steps != 0) {
				t.Errorf("%s: node of kind %d did %v", s, n.Kind, r)
			}
			return true
		})
	}
}

// P4: a program is not changed by running it.
func TestProgramStays(t *testing.T) {
	for _, s := range texts() {
		n := parse(t, s)
		run.Run(n)
		run.Number(n)
		if !plain.Same(n, parse(t, s)) {
			t.Errorf("%s: changed to %s", s, tree.Text(n))
		}
	}
}

// P4: what comes out is the caller's.
func TestResultIsTheCallers(t *testing.T) {
	n := parse(t, "print(1); print(print);")
	first, _ := run.Run(n)
	first.Log[0] = "changed"
	first.Seen[0] = [2]int{7, 7}
	_ = append(first.Log[:1], "behind")
	second, _ := run.Run(n)
	if !slices.Equal(second.Log, []string{"1", "function"}) || second.Seen[0] != [2]int{3, run.Global} {
		t.Errorf("%v behind a caller's change", second)
	}
}
