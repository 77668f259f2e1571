package heap_test

import (
	"math"
	"testing"

	"sloppyscope/api"
	"sloppyscope/heap"
)

// Promise 5.1.

func TestKinds(t *testing.T) {
	for i, k := range []int{heap.Undefined, heap.Null, heap.Bool, heap.Number, heap.Text, heap.Ref} {
		want(t, "a value's kind", k, i)
	}
	for i, k := range kinds() {
		want(t, "a name's kind", k, i)
	}
}

func TestMade(t *testing.T) {
	for _, n := range []int{0, 1, -1, 1_000_000_000, math.MinInt, math.MaxInt} {
		want(t, "Of", heap.Of(n), heap.Value{Kind: heap.Number, N: n})
	}
	for _, s := range []string{"", "a", "0", "false", "\x00\xff"} {
		want(t, "Say", heap.Say(s), heap.Value{Kind: heap.Text, S: s})
	}
	want(t, "Is", heap.Is(false), heap.Value{Kind: heap.Bool})
	want(t, "Is", heap.Is(true), heap.Value{Kind: heap.Bool, N: 1})
	want(t, "the zero value", heap.Value{}, heap.Value{Kind: heap.Undefined})
}

// shown is a value, whether it counts as true, and how it is shown.
type shown struct {
	v    heap.Value
	yes  bool
	text string
}

func wantShown(t *testing.T, h *heap.Heap, cases []shown) {
	t.Helper()
	for _, c := range cases {
		if got := c.v.True(); got != c.yes {
			t.Errorf("%#v: True %v, want %v", c.v, got, c.yes)
		}
		if got := h.Show(c.v); got != c.text {
			t.Errorf("%#v: Show %q, want %q", c.v, got, c.text)
		}
	}
}

func ref(object int) heap.Value { return heap.Value{Kind: heap.Ref, N: object} }

func TestTrueAndShow(t *testing.T) {
	var h heap.Heap
	wantShown(t, &h, []shown{
		{heap.Value{}, false, "undefined"},
		{heap.Value{Kind: heap.Null}, false, "null"},
		{heap.Is(true), true, "true"},
		{heap.Is(false), false, "false"},
		{heap.Of(0), false, "0"},
		{heap.Of(1), true, "1"},
		{heap.Of(-1), true, "-1"},
		{heap.Of(-1_000_000_000), true, "-1000000000"},
		{heap.Of(math.MinInt64), true, "-9223372036854775808"},
		{heap.Of(math.MaxInt64), true, "9223372036854775807"},
		{heap.Say(""), false, ""},
		{heap.Say("a"), true, "a"},
		{heap.Say("0"), true, "0"},
		{heap.Say(" "), true, " "},
		{heap.Say("false"), true, "false"},
		{heap.Say("it's\n\"\\\x00\xff"), true, "it's\n\"\\\x00\xff"},
	})
}

func TestShowObjects(t *testing.T) {
	var h heap.Heap
	for _, code := range []int{0, 1, 0, -1, math.MinInt, math.MaxInt} {
		h.Object(code)
	}
	wantShown(t, &h, []shown{
		{ref(0), true, "object"},
		{ref(1), true, "function"},
		{ref(2), true, "object"},
		{ref(3), true, "function"},
		{ref(4), true, "function"},
		{ref(5), true, "function"},
		{ref(6), true, "object"},
		{ref(-1), true, "object"},
	})
	wantError(t, "Put", h.Put(0, "a", ref(1), false), api.OK)
	want(t, "an object with properties", h.Show(ref(0)), "object")
	wantError(t, "Put", h.Put(1, "a", ref(0), false), api.OK)
	want(t, "a function with properties", h.Show(ref(1)), "function")
}

// What doesn't belong to a value's kind does not count.
func TestLeftovers(t *testing.T) {
	var h heap.Heap
	wantShown(t, &h, []shown{
		{heap.Value{Kind: heap.Undefined, N: 1, S: "a"}, false, "undefined"},
		{heap.Value{Kind: heap.Null, N: 1, S: "a"}, false, "null"},
		{heap.Value{Kind: heap.Bool, S: "a"}, false, "false"},
		{heap.Value{Kind: heap.Number, S: "a"}, false, "0"},
		{heap.Value{Kind: heap.Text, N: 1}, false, ""},
		{heap.Value{Kind: heap.Ref, S: "a"}, true, "object"},
	})
}

// Of no kind that there is: all but those that are told count as true, and nothing is told that is shown.
func TestNoKind(t *testing.T) {
	var h heap.Heap
	h.Object(1)
	for _, k := range []int{heap.Ref + 1, -1, math.MinInt, math.MaxInt} {
		wantShown(t, &h, []shown{
			{heap.Value{Kind: k}, true, ""},
			{heap.Value{Kind: k, N: 1, S: "a"}, true, ""},
		})
	}
}
