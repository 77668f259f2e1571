package run

import (
	"errors"
	"testing"

	"sloppyscope/heap"
	"sloppyscope/tree"
)

// No program has the global object as a value, and no other one has fixed properties: here it is given one, so that delete of a fixed property is to be seen (6.5).
func withGlobal(t *testing.T, text string) (*machine, error) {
	t.Helper()
	n, err := tree.Parse(text)
	if err != nil {
		t.Fatal(err)
	}
	m := newMachine(n)
	m.Put(m.global, "g", ref(m.global), false)
	_, err = m.statements(n.Kids, m.program(n))
	return m, err
}

func TestDeleteFixed(t *testing.T) {
	m, err := withGlobal(t, "var a = 1; print(delete g.a, g.a, delete g.print, g.print);")
	if err != nil || len(m.result.Log) != 1 || m.result.Log[0] != "false 1 true undefined" {
		t.Errorf("%q, %v", m.result.Log, err)
	}
	m, err = withGlobal(t, "'use strict'; var a = 1; print(delete g.b); delete g.a;")
	var what *thrown
	if !errors.As(err, &what) || what.value != heap.Say("type") || len(m.result.Log) != 1 {
		t.Errorf("in strict code: %q, %v", m.result.Log, err)
	}
}

// Each scope has an owner, whoever made it, and calls are undone (6.3, 6.6).
func TestOwnersOfAll(t *testing.T) {
	m, err := withGlobal(t, "with ({a: 1}) eval('let b = 1; function f(c) {{let d = 1;}} f();'); eval('\\'use strict\\'; let e = 1;');")
	if err != nil {
		t.Fatal(err)
	}
	if _, scopes := m.Many(); scopes != len(m.owners) || m.calls != 0 {
		t.Fatalf("%d scopes, %d owners, %d calls", scopes, len(m.owners), m.calls)
	}
	// Global, the program, with, eval's lets, its function, a block of that; then strict eval's own, and its lets.
	want := []int{Global, 0, Object, Evaled, Evaled, Evaled, Evaled, Evaled}
	for i, owner := range want {
		if m.owners[i] != owner {
			t.Errorf("scope %d: owner %d, want %d", i, m.owners[i], owner)
		}
	}
	if len(m.owners) != len(want) {
		t.Errorf("%d scopes, want %d", len(m.owners), len(want))
	}
}
