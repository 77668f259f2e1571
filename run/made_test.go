package run_test

import (
	"math/rand"
	"slices"
	"strings"
	"testing"

	"sloppyscope/api"
	"sloppyscope/early"
	"sloppyscope/hoist"
	"sloppyscope/plain"
	"sloppyscope/run"
	"sloppyscope/tree"
)

// Made programs: what must be true of all of them.

// maker draws programs over some names, without what is left out.
type maker struct {
	*rand.Rand
	names  []string
	with   bool // with, and delete of names
	eval   bool
	try    bool
	inside bool
}

func (m *maker) name() string { return m.names[m.Intn(len(m.names))] }

func (m *maker) pick(l ...string) string { return l[m.Intn(len(l))] }

func (m *maker) simple() string {
	return m.pick("0", "1", "2", "'s'", "''", "true", "false", "null", "undefined", "{}", "arguments", "arguments.a0", m.name(), m.name(), m.name(), m.name(), m.name())
}

func (m *maker) value(deep int) string {
	if deep == 0 {
		return m.simple()
	}
	v := func() string { return m.value(deep - 1) }
	switch m.Intn(16) {
	case 0, 1:
		return m.name() + " = " + v()
	case 2, 3:
		return "(" + v() + m.pick(" + ", " - ", " * ", " < ", " === ", " || ", " && ") + v() + ")"
	case 4:
		return m.pick("!", "typeof ", "delete ") + "(" + v() + ")"
	case 5:
		return "(" + v() + ")." + m.name()
	case 6:
		return m.name() + "." + m.name() + " = " + v()
	case 7:
		return "{" + m.name() + ": " + v() + ", " + m.name() + ": " + v() + "}"
	case 8:
		return "(function " + m.pick("", m.name()) + "(" + m.name() + ") {" + m.body(deep-1) + "})"
	case 9:
		return "(function(" + m.name() + ") {" + m.body(deep-1) + "})(" + v() + ")"
	case 10, 11:
		return m.name() + "(" + v() + ")"
	case 12:
		if m.eval {
			return m.pick("eval", "(0 || eval)") + "(" + quoted(m.code(deep-1)) + ")"
		}
	case 13:
		if m.with {
			return m.pick("typeof ", "delete ") + m.name()
		}
		return "typeof " + m.name()
	}
	return m.simple()
}

// body is the inside of a function.
func (m *maker) body(deep int) string {
	around := m.inside
	m.inside = true
	defer func() { m.inside = around }()
	return m.pick("", "", "", "'use strict'; ") + m.list(deep)
}

// code is a text for eval.
func (m *maker) code(deep int) string {
	around := m.inside
	m.inside = false
	defer func() { m.inside = around }()
	return m.pick("", "", "", "'use strict'; ") + m.list(deep)
}

func (m *maker) list(deep int) string {
	var l []string
	for range m.Intn(4) {
		l = append(l, m.statement(deep))
	}
	return strings.Join(l, " ")
}

func (m *maker) statement(deep int) string {
	v := m.value(min(deep, 2))
	if deep == 0 {
		return m.pick("print("+v+");", "var "+m.name()+" = "+v+";", "let "+m.name()+" = "+v+";", m.name()+" = "+v+";")
	}
	block := func() string { return "{" + m.list(deep-1) + "}" }
	switch m.Intn(15) {
	case 0:
		return "var " + m.name() + m.pick("", " = "+v) + ";"
	case 1:
		return m.pick("let ", "const ") + m.name() + " = " + v + ";"
	case 2, 3:
		return "function " + m.name() + "(" + m.name() + ", " + m.name() + ") {" + m.body(deep-1) + "}"
	case 4:
		return block()
	case 5:
		return "if (" + v + ") " + block() + m.pick("", " else "+block())
	case 6:
		n := m.name()
		return "while (" + n + " < 3) {" + n + " = " + n + " + 1; " + m.list(deep-1) + "}"
	case 7, 8:
		if m.with {
			return "with (" + m.pick("{"+m.name()+": "+v+"}", m.name()) + ") " + block()
		}
	case 9, 10:
		if m.try {
			return "try " + block() + m.pick(" finally "+block(), " catch ("+m.name()+") "+block(), " catch ("+m.name()+") "+block()+" finally "+block())
		}
	case 11:
		return "throw " + v + ";"
	case 12:
		if m.inside {
			return "return " + v + ";"
		}
	case 13:
		return "(" + v + ");"
	}
	return "print(" + v + ", " + m.name() + ");"
}

func (m *maker) program() string {
	var b strings.Builder
	b.WriteString(m.pick("", "var "+m.name()+" = 1; ", "let "+m.name()+" = 'a'; ", "var "+m.name()+" = {"+m.name()+": 1}; "))
	for range 1 + m.Intn(5) {
		b.WriteString(m.statement(1+m.Intn(3)) + " ")
	}
	return b.String()
}

// runs are how programs ended, so that no test passes for want of some that end in some way.
type runs [4]int

func (r runs) wantAll(t *testing.T, least int) {
	t.Helper()
	for _, code := range []int{run.Done, run.Thrown} {
		if r[code] < least {
			t.Errorf("only %d programs ended %d", r[code], code)
		}
	}
}

// right is a program of a text that can be read and that nothing is wrong with.
func right(text string) *api.Node {
	n, err := tree.Parse(text)
	if err != nil || early.Check(n, false, false) != nil {
		return nil
	}
	return n
}

func letters() []string { return []string{"a", "b", "c", "f", "g"} }

func TestMadeAgain(t *testing.T) {
	m := maker{Rand: rand.New(rand.NewSource(1)), names: letters(), with: true, eval: true, try: true}
	var ends runs
	for range 4000 {
		s := m.program()
		n, err := tree.Parse(s)
		if err != nil {
			continue // too deep
		}
		r, err := run.Run(n)
		if err != early.Check(n, false, false) {
			t.Fatalf("%s: error %d", s, api.Tell(err))
		}
		if err != nil {
			wantNoResult(t, s, r)
			continue
		}
		ends[r.Code]++
		if r.Code < run.Done || r.Code > run.Stopped || r.Steps > api.MaxSteps+1 || (r.Code == run.Stopped) != (r.Steps == api.MaxSteps+1) || r.Code != run.Thrown && r.Value != "" {
			t.Fatalf("%s: ended %d (%s) after %d steps", s, r.Code, r.Value, r.Steps)
		}
		again, _ := run.Run(n)
		if !same(r, again) || !plain.Same(n, parse(t, s)) {
			t.Fatalf("%s: %v, then %v", s, r, again)
		}
	}
	ends.wantAll(t, 100)
}

// What a program prints is the beginning of what it prints with more behind it.
func TestMadeWithMoreBehind(t *testing.T) {
	m := maker{Rand: rand.New(rand.NewSource(2)), names: letters(), with: true, eval: true, try: true}
	var ends runs
	for range 4000 {
		s := m.program()
		n := right(s)
		more := right(s + " throw 'more';")
		if n == nil || more == nil {
			continue
		}
		r, _ := run.Run(n)
		longer, _ := run.Run(more)
		ends[r.Code]++
		want := r
		if r.Code == run.Done && r.Steps+2 <= api.MaxSteps {
			want.Code, want.Value, want.Steps = run.Thrown, "more", r.Steps+2
		}
		if !same(longer, want) {
			t.Fatalf("%s: %v, with more behind %v", s, r, longer)
		}
	}
	ends.wantAll(t, 100)
}

// What ends well in strict code does the same elsewhere, without try and eval.
func TestMadeStrict(t *testing.T) {
	m := maker{Rand: rand.New(rand.NewSource(3)), names: letters()}
	var ends runs
	for range 8000 {
		s := m.program()
		strict, loose := right("'use strict'; "+s), right("'use loosely'; "+s)
		if strict == nil {
			continue
		}
		r, _ := run.Run(strict)
		ends[r.Code]++
		if r.Code != run.Done {
			continue
		}
		if other, err := run.Run(loose); err != nil || !same(r, other) {
			t.Fatalf("%s: %v, elsewhere %v", s, r, other)
		}
	}
	ends.wantAll(t, 100)
}

// With other names in their places, all of them, a program does the same, step by step.
func TestMadeWithOtherNames(t *testing.T) {
	var ends runs
	for seed := range int64(4000) {
		one := maker{Rand: rand.New(rand.NewSource(seed)), names: letters(), with: true, eval: true, try: true}
		two := maker{Rand: rand.New(rand.NewSource(seed)), names: []string{"f", "z_1", "a", "q", "p"}, with: true, eval: true, try: true}
		s, other := one.program(), two.program()
		n := right(s)
		if n == nil {
			continue
		}
		r, _ := run.Run(n)
		ends[r.Code]++
		if changed, err := run.Run(parse(t, other)); err != nil || !same(r, changed) {
			t.Fatalf("%s: %v\n%s: %v", s, r, other, changed)
		}
	}
	ends.wantAll(t, 100)
}

// lie is where names lie as far as the text tells: by the numbers of their nodes the owners.
type lie struct {
	numbers map[*api.Node]int
	owners  map[int]int
}

// around is a scope that the text tells of, and what is around it.
type around struct {
	owner int
	names []string
	outer *around
}

func (a *around) find(name string) int {
	for ; a != nil; a = a.outer {
		if slices.Contains(a.names, name) {
			return a.owner
		}
	}
	return run.Global
}

func (l lie) look(n *api.Node, a *around) {
	number := l.numbers[n]
	switch n.Kind {
	case api.Name:
		l.owners[number] = a.find(n.Text)
	case api.Program:
		a = &around{number, textsOf(hoist.Lets(n)), a}
	case api.Block:
		a = &around{number, hoist.Names(n, false), a}
	case api.Catch:
		a = &around{number, []string{n.Text}, a}
	case api.Func, api.Lambda:
		l.function(n, a)
		return
	}
	for _, k := range n.Kids {
		l.look(k, a)
	}
}

func (l lie) function(n *api.Node, a *around) {
	number := l.numbers[n]
	if n.Kind == api.Lambda {
		a = &around{number, []string{n.Text}, a}
	}
	names := append(textsOf(n.Kids[0].Kids), hoist.Names(n.Kids[1], true)...)
	a = &around{number, append(names, "arguments"), a}
	for _, k := range n.Kids[1].Kids {
		l.look(k, a)
	}
}

func textsOf(nodes []*api.Node) (l []string) {
	for _, n := range nodes {
		l = append(l, n.Text)
	}
	return l
}

// What is seen is where the text tells, without with and eval.
func TestMadeSeen(t *testing.T) {
	m := maker{Rand: rand.New(rand.NewSource(5)), names: letters(), try: true}
	var ends runs
	for range 4000 {
		s := m.program()
		n := right(s)
		if n == nil {
			continue
		}
		r, _ := run.Run(n)
		ends[r.Code]++
		l := lie{run.Number(n), map[int]int{}}
		l.look(n, nil)
		for _, pair := range r.Seen {
			if owner, ok := l.owners[pair[0]]; !ok || owner != pair[1] {
				t.Fatalf("%s: node %d was seen in %d, the text tells %d", s, pair[0], pair[1], owner)
			}
		}
	}
	ends.wantAll(t, 100)
}

// A program of nothing but eval of its text, in which nothing is declared but lets, prints the same and ends the same.
func TestMadeByEval(t *testing.T) {
	m := maker{Rand: rand.New(rand.NewSource(6)), names: letters(), try: true}
	var ends runs
	for range 4000 {
		s := m.program()
		n := right(s)
		if n == nil || len(s) > 400 || len(hoist.Vars(n)) > 0 || len(hoist.Funcs(n)) > 0 {
			continue
		}
		byEval := "eval(" + quoted(s) + ");"
		r, _ := run.Run(n)
		ends[r.Code]++
		other := do(t, byEval)
		if r.Code != run.Stopped && !strings.Contains(told(r), "range") && (told(r) != told(other) || r.Steps+4 != other.Steps) {
			t.Fatalf("%s: %v, by eval %v", s, r, other)
		}
	}
	ends.wantAll(t, 50)
}
