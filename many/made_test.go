package many_test

import (
	"math/rand"
	"strings"
	"testing"

	"sloppyscope/many"
	"sloppyscope/run"
	"sloppyscope/tree"
)

// Made texts, held against the words of 10.1, written a second time.

// maker draws texts, most of which are programs.
type maker struct{ *rand.Rand }

func (m *maker) pick(l ...string) string { return l[m.Intn(len(l))] }

func (m *maker) name() string { return m.pick("a", "b", "f") }

func (m *maker) value(deep int) string {
	if deep == 0 {
		return m.pick("1", "'s'", "{}", "null", "(function(a) {print(a); return b;})", m.name(), m.name())
	}
	v := func() string { return m.value(deep - 1) }
	switch m.Intn(6) {
	case 0:
		return m.name() + " = " + v()
	case 1:
		return "(" + v() + m.pick(" + ", " < ", " === ", " || ", " && ") + v() + ")"
	case 2:
		return "print(" + v() + ", " + v() + ")"
	case 3:
		return m.name() + "(" + v() + ")"
	case 4:
		return "eval(" + m.pick("'var a = 2; a;'", "'let b; b = b + 1;'", "'a'", v()) + ")"
	}
	return v()
}

func (m *maker) statement(deep int) string {
	v := m.value(2)
	if deep == 0 {
		return "(" + v + ");"
	}
	s := func() string { return m.statement(deep - 1) }
	switch m.Intn(12) {
	case 0, 1:
		return m.pick("var ", "let ", "const ") + m.name() + " = " + v + ";"
	case 2:
		return "function " + m.name() + "(" + m.name() + ") {" + s() + s() + "}"
	case 3:
		return "with ({a: " + v + "}) " + s()
	case 4:
		return "try {" + s() + "} catch (" + m.name() + ") {" + s() + "}"
	case 5:
		return "while (" + m.pick(m.name(), m.name(), "true") + ") {" + s() + "}"
	case 6:
		return m.pick("throw "+v+";", "return;", "{"+s()+"}")
	case 7:
		return m.pick("1 = 2;", "a", "'", "]", "1000000001;", ";", "'use strict';")
	}
	return "print(" + v + ");"
}

func (m *maker) text() string {
	var b strings.Builder
	for range m.Intn(6) {
		b.WriteString(m.statement(2) + m.pick(" ", "\n", ""))
	}
	return b.String()
}

// asked is what 10.1 asks of a text.
func asked(text string) (a many.Answer) {
	n, err := tree.Parse(text)
	if err == nil {
		a.Result, err = run.Run(n)
	}
	if err != nil {
		a = many.Answer{Err: err}
	}
	return a
}

func TestMade(t *testing.T) {
	m := &maker{rand.New(rand.NewSource(10))}
	ends := map[int]int{}
	for range 400 {
		texts := []string{}
		for range m.Intn(51) {
			texts = append(texts, m.text())
		}
		want := []many.Answer{}
		for _, text := range texts {
			a := asked(text)
			want = append(want, a)
			ends[a.Code]++
			wantSame(t, text, many.One(text), a)
		}
		wantAll(t, texts, 1+m.Intn(16), want)
		if t.Failed() {
			return
		}
	}
	for code := 0; code <= run.Stopped; code++ {
		if ends[code] < 100 {
			t.Errorf("of the made texts %d end by %d", ends[code], code)
		}
	}
}
