package heap_test

import (
	"math"
	"strconv"
	"testing"

	"sloppyscope/api"
	"sloppyscope/heap"
)

// Promises 5.2 (a scope's outer, and its object) and 5.3.

func declare(t *testing.T, h *heap.Heap, scope int, name string, kind int, v heap.Value) {
	t.Helper()
	wantError(t, "Declare of "+name, h.Declare(scope, name, kind, v), api.OK)
}

func TestScopes(t *testing.T) {
	var h heap.Heap
	global, box := h.Object(0), h.Object(0)
	outer := h.Scope(-1, global)
	own := h.Scope(outer, -1)
	with := h.Scope(own, box)
	twin := h.Scope(outer, box)
	for i, c := range []struct{ scope, outer, object int }{{outer, -1, global}, {own, outer, -1}, {with, own, box}, {twin, outer, box}} {
		want(t, "Scope", c.scope, i)
		want(t, "OuterOf", h.OuterOf(c.scope), c.outer)
		want(t, "ObjectOf", h.ObjectOf(c.scope), c.object)
	}
	wantMany(t, &h, 2, 4)
}

// An outer is a scope that there is ahead of the new one: else there is none, even when one of that number comes.
func TestOuterThatThereIsNot(t *testing.T) {
	for _, n := range append(far(), 0, 1, 2) { // 0 is the number of the new one itself
		var h heap.Heap
		s := h.Scope(n, -1)
		want(t, "Scope", s, 0)
		for range 60 {
			declare(t, &h, h.Scope(-1, -1), "a", heap.Plain, heap.Of(1))
		}
		want(t, "OuterOf", h.OuterOf(s), -1)
		want(t, "Find", h.Find(s, "a"), -1)
	}
}

// An object that there isn't is none, likewise: the scope has names of its own.
func TestObjectThatThereIsNot(t *testing.T) {
	for _, n := range append(far(), 0, 1) {
		var h heap.Heap
		s := h.Scope(-1, n)
		for range 60 {
			put(t, &h, h.Object(0), "a", heap.Of(1), false)
		}
		want(t, "ObjectOf", h.ObjectOf(s), -1)
		want(t, "Has", h.Has(s, "a"), false)
		declare(t, &h, s, "a", heap.Plain, heap.Of(2))
		wantRead(t, &h, s, "a", heap.Of(2), api.OK)
	}
}

func TestDeclare(t *testing.T) {
	for _, k := range kinds() {
		h := small()
		declare(t, h, 0, "a", k, heap.Of(1))
		want(t, "Has", h.Has(0, "a"), true)
		want(t, "Has", h.Has(0, "b"), false)
		want(t, "KindOf", h.KindOf(0, "a"), k)
		want(t, "KindOf", h.KindOf(0, "b"), -1)
		if k == heap.Late || k == heap.Final {
			wantRead(t, h, 0, "a", heap.Value{}, api.ErrState)
		} else {
			wantRead(t, h, 0, "a", heap.Of(1), api.OK)
		}
		for _, again := range kinds() {
			wantError(t, "Declare again", h.Declare(0, "a", again, heap.Of(2)), api.ErrTwice)
		}
		want(t, "KindOf", h.KindOf(0, "a"), k)
		wantError(t, "Start", h.Start(0, "a", heap.Of(3)), api.OK)
		wantRead(t, h, 0, "a", heap.Of(3), api.OK)
		wantError(t, "Declare again", h.Declare(0, "a", heap.Late, heap.Of(2)), api.ErrTwice)
		wantRead(t, h, 0, "a", heap.Of(3), api.OK)
	}
}

// No sentence forbids another kind: a name is of it, and ready.
func TestDeclareOfOtherKinds(t *testing.T) {
	for _, k := range []int{heap.Loose + 1, -2, math.MinInt, math.MaxInt} {
		h := small()
		declare(t, h, 0, "", k, heap.Of(1))
		want(t, "KindOf", h.KindOf(0, ""), k)
		wantRead(t, h, 0, "", heap.Of(1), api.OK)
		wantError(t, "Write", h.Write(0, "", heap.Of(2)), api.OK)
		wantRead(t, h, 0, "", heap.Of(2), api.OK)
		want(t, "Drop", h.Drop(0, ""), false)
	}
}

func TestStart(t *testing.T) {
	for _, k := range kinds() {
		h := small()
		wantError(t, "Start of none", h.Start(0, "a", heap.Of(1)), api.ErrMissing)
		want(t, "Has", h.Has(0, "a"), false)
		declare(t, h, 0, "a", k, heap.Value{})
		declare(t, h, 0, "b", heap.Late, heap.Value{})
		wantError(t, "Start", h.Start(0, "a", heap.Of(1)), api.OK)
		wantRead(t, h, 0, "a", heap.Of(1), api.OK)
		wantError(t, "Start again", h.Start(0, "a", heap.Say("x")), api.OK)
		wantRead(t, h, 0, "a", heap.Say("x"), api.OK)
		want(t, "KindOf", h.KindOf(0, "a"), k)
		wantRead(t, h, 0, "b", heap.Value{}, api.ErrState)
	}
}

// written is what Write says of a name of a kind, ahead of its start and behind it.
type written struct {
	kind         int
	ahead, later api.Errno
}

func TestWrite(t *testing.T) {
	for _, c := range []written{
		{heap.Plain, api.OK, api.OK},
		{heap.Late, api.ErrState, api.OK},
		{heap.Final, api.ErrState, api.ErrArg},
		{heap.Own, api.ErrName, api.ErrName},
		{heap.Loose, api.OK, api.OK},
	} {
		h := small()
		wantError(t, "Write of none", h.Write(0, "a", heap.Of(2)), api.ErrMissing)
		want(t, "Has", h.Has(0, "a"), false)
		declare(t, h, 0, "a", c.kind, heap.Of(1))
		wantError(t, "Write ahead", h.Write(0, "a", heap.Of(2)), c.ahead)
		switch c.ahead {
		case api.OK:
			wantRead(t, h, 0, "a", heap.Of(2), api.OK)
		case api.ErrState:
			wantRead(t, h, 0, "a", heap.Value{}, api.ErrState)
		default:
			wantRead(t, h, 0, "a", heap.Of(1), api.OK)
		}
		wantError(t, "Start", h.Start(0, "a", heap.Of(3)), api.OK)
		wantError(t, "Write later", h.Write(0, "a", heap.Of(4)), c.later)
		if c.later == api.OK {
			wantRead(t, h, 0, "a", heap.Of(4), api.OK)
		} else {
			wantRead(t, h, 0, "a", heap.Of(3), api.OK)
		}
		want(t, "KindOf", h.KindOf(0, "a"), c.kind)
	}
}

func TestDrop(t *testing.T) {
	for _, k := range kinds() {
		for _, started := range []bool{false, true} {
			h := small()
			want(t, "Drop of none", h.Drop(0, "a"), true)
			declare(t, h, 0, "before", heap.Plain, heap.Of(1))
			declare(t, h, 0, "a", k, heap.Of(2))
			declare(t, h, 0, "behind", heap.Loose, heap.Of(3))
			if started {
				wantError(t, "Start", h.Start(0, "a", heap.Of(2)), api.OK)
			}
			goes := k == heap.Loose
			want(t, "Drop", h.Drop(0, "a"), goes)
			want(t, "Has", h.Has(0, "a"), !goes)
			wantRead(t, h, 0, "before", heap.Of(1), api.OK)
			wantRead(t, h, 0, "behind", heap.Of(3), api.OK)
			if goes {
				want(t, "KindOf", h.KindOf(0, "a"), -1)
				wantRead(t, h, 0, "a", heap.Value{}, api.ErrMissing)
				want(t, "Drop once more", h.Drop(0, "a"), true)
				declare(t, h, 0, "a", heap.Final, heap.Of(4))
				wantRead(t, h, 0, "a", heap.Value{}, api.ErrState)
			}
		}
	}
}

// A scope of an object has its properties, as they come and go; it has no names of its own.
func TestScopeOfObject(t *testing.T) {
	var h heap.Heap
	o := h.Object(0)
	s := h.Scope(-1, o)
	for _, name := range []string{"a", "b"} {
		for _, k := range kinds() {
			wantError(t, "Declare", h.Declare(s, name, k, heap.Of(1)), api.ErrArg)
		}
		want(t, "Has", h.Has(s, name), false)
		wantRead(t, &h, s, name, heap.Value{}, api.ErrMissing)
		wantError(t, "Write of none", h.Write(s, name, heap.Of(1)), api.ErrMissing)
		want(t, "Drop of none", h.Drop(s, name), true)
	}
	wantKeys(t, &h, o)
	put(t, &h, o, "a", heap.Of(1), false)
	put(t, &h, o, "b", heap.Value{}, true)
	wantRead(t, &h, s, "b", heap.Value{}, api.OK)
	for _, name := range []string{"a", "b"} {
		want(t, "Has", h.Has(s, name), true)
		want(t, "Find", h.Find(s, name), s)
		want(t, "KindOf", h.KindOf(s, name), -1)
		wantError(t, "Declare", h.Declare(s, name, heap.Plain, heap.Of(1)), api.ErrArg)
		wantError(t, "Start", h.Start(s, name, heap.Of(9)), api.ErrMissing)
		wantError(t, "Write", h.Write(s, name, heap.Of(2)), api.OK)
		wantRead(t, &h, s, name, heap.Of(2), api.OK)
		wantGet(t, &h, o, name, heap.Of(2), true)
	}
	wantKeys(t, &h, o, "a", "b")
	want(t, "Drop", h.Drop(s, "a"), true)
	want(t, "Drop of a fixed one", h.Drop(s, "b"), false)
	wantKeys(t, &h, o, "b")
	want(t, "Has", h.Has(s, "a"), false)
	put(t, &h, o, "c", heap.Of(3), false)
	wantRead(t, &h, s, "c", heap.Of(3), api.OK)
	want(t, "Cut", h.Cut(o, "c"), true)
	want(t, "Has", h.Has(s, "c"), false)
}

// Two scopes of one object have the same properties.
func TestScopesOfOneObject(t *testing.T) {
	var h heap.Heap
	o := h.Object(0)
	a := h.Scope(-1, o)
	b := h.Scope(a, o)
	put(t, &h, o, "x", heap.Of(1), false)
	want(t, "Find", h.Find(b, "x"), b)
	wantError(t, "Write", h.Write(a, "x", heap.Of(2)), api.OK)
	wantRead(t, &h, b, "x", heap.Of(2), api.OK)
	want(t, "Drop", h.Drop(b, "x"), true)
	want(t, "Find", h.Find(b, "x"), -1)
}

func TestFind(t *testing.T) {
	var h heap.Heap
	global := h.Object(0)
	s := []int{h.Scope(-1, global)}
	for range 3 {
		s = append(s, h.Scope(s[len(s)-1], -1))
	}
	aside := h.Scope(s[1], -1)
	put(t, &h, global, "g", heap.Of(0), true)
	declare(t, &h, s[1], "a", heap.Plain, heap.Of(1))
	declare(t, &h, s[2], "b", heap.Late, heap.Of(2))
	declare(t, &h, aside, "c", heap.Plain, heap.Of(3))
	for _, c := range []struct {
		from int
		name string
		want int
	}{
		{s[3], "g", s[0]}, {s[3], "a", s[1]}, {s[3], "b", s[2]}, {s[3], "c", -1}, {s[3], "d", -1},
		{s[2], "b", s[2]}, {s[1], "b", -1}, {s[1], "a", s[1]}, {s[0], "a", -1}, {s[0], "g", s[0]},
		{aside, "c", aside}, {aside, "a", s[1]}, {aside, "b", -1}, {aside, "g", s[0]},
	} {
		want(t, "Find of "+c.name+" from "+strconv.Itoa(c.from), h.Find(c.from, c.name), c.want)
	}
	// What is around is not the scope's itself.
	want(t, "Has", h.Has(s[3], "a"), false)
	wantRead(t, &h, s[3], "a", heap.Value{}, api.ErrMissing)
	wantError(t, "Write", h.Write(s[3], "a", heap.Of(9)), api.ErrMissing)
	wantError(t, "Start", h.Start(s[3], "a", heap.Of(9)), api.ErrMissing)
	want(t, "Drop", h.Drop(s[3], "g"), true)
	wantRead(t, &h, s[1], "a", heap.Of(1), api.OK)
	wantGet(t, &h, global, "g", heap.Of(0), true)
}

// An inner name hides an outer one, and when it goes the outer one is found again.
func TestHidden(t *testing.T) {
	var h heap.Heap
	global, box := h.Object(0), h.Object(0)
	outer := h.Scope(-1, global)
	function := h.Scope(outer, -1)
	with := h.Scope(function, box)
	block := h.Scope(with, -1)
	put(t, &h, global, "x", heap.Of(0), true)
	want(t, "Find", h.Find(block, "x"), outer)
	declare(t, &h, function, "x", heap.Loose, heap.Of(1))
	want(t, "Find", h.Find(block, "x"), function)
	put(t, &h, box, "x", heap.Of(2), false)
	want(t, "Find", h.Find(block, "x"), with)
	want(t, "Find", h.Find(function, "x"), function)
	declare(t, &h, block, "x", heap.Loose, heap.Of(3))
	for i, s := range []int{block, with, function, outer} {
		want(t, "Find", h.Find(block, "x"), s)
		wantRead(t, &h, s, "x", heap.Of(3-i), api.OK)
		want(t, "Drop", h.Drop(s, "x"), s != outer)
	}
	want(t, "Find", h.Find(block, "x"), outer)
	wantRead(t, &h, outer, "x", heap.Of(0), api.OK)
}

// A name that is not ready hides an outer one, too.
func TestHiddenAheadOfStart(t *testing.T) {
	for _, k := range []int{heap.Late, heap.Final} {
		h := small()
		inner := h.Scope(0, -1)
		declare(t, h, 0, "x", heap.Plain, heap.Of(1))
		declare(t, h, inner, "x", k, heap.Of(2))
		want(t, "Find", h.Find(inner, "x"), inner)
		wantRead(t, h, inner, "x", heap.Value{}, api.ErrState)
		want(t, "Drop", h.Drop(inner, "x"), false)
		wantRead(t, h, 0, "x", heap.Of(1), api.OK)
	}
}

func TestDeep(t *testing.T) {
	h := small()
	declare(t, h, 0, "x", heap.Plain, heap.Of(1))
	deep := 0
	for range 1 << 16 {
		deep = h.Scope(deep, -1)
	}
	want(t, "Find", h.Find(deep, "x"), 0)
	want(t, "Find", h.Find(deep, "y"), -1)
	declare(t, h, deep, "y", heap.Late, heap.Value{})
	want(t, "Find", h.Find(deep, "y"), deep)
}
