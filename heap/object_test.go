package heap_test

import (
	"strconv"
	"testing"

	"sloppyscope/api"
	"sloppyscope/heap"
)

// Promise 5.2.

func put(t *testing.T, h *heap.Heap, object int, name string, v heap.Value, fixed bool) {
	t.Helper()
	wantError(t, "Put of "+name, h.Put(object, name, v, fixed), api.OK)
}

func TestProperties(t *testing.T) {
	h := small()
	wantKeys(t, h, 0)
	wantGet(t, h, 0, "a", heap.Value{}, false)
	put(t, h, 0, "b", heap.Of(1), false)
	put(t, h, 0, "a", heap.Say("x"), true)
	put(t, h, 0, "", heap.Value{}, false)
	wantKeys(t, h, 0, "b", "a", "")
	wantGet(t, h, 0, "b", heap.Of(1), true)
	wantGet(t, h, 0, "a", heap.Say("x"), true)
	wantGet(t, h, 0, "", heap.Value{}, true) // Undefined is a value: the property is there
	wantGet(t, h, 0, "A", heap.Value{}, false)
	wantGet(t, h, 0, "ab", heap.Value{}, false)
}

func TestPropertySetAgain(t *testing.T) {
	h := small()
	put(t, h, 0, "a", heap.Of(1), false)
	put(t, h, 0, "b", heap.Of(2), true)
	put(t, h, 0, "c", heap.Of(3), false)
	put(t, h, 0, "a", heap.Say("x"), true) // it is not new: it is not fixed by that
	put(t, h, 0, "b", heap.Is(true), false)
	wantKeys(t, h, 0, "a", "b", "c")
	wantGet(t, h, 0, "a", heap.Say("x"), true)
	wantGet(t, h, 0, "b", heap.Is(true), true)
	want(t, "Cut of a", h.Cut(0, "a"), true)
	want(t, "Cut of b", h.Cut(0, "b"), false)
	wantKeys(t, h, 0, "b", "c")
	wantGet(t, h, 0, "b", heap.Is(true), true)
}

func TestCut(t *testing.T) {
	h := small()
	for i, name := range []string{"a", "b", "c", "d"} {
		put(t, h, 0, name, heap.Of(i), name == "c")
	}
	want(t, "Cut of none", h.Cut(0, "e"), true)
	wantKeys(t, h, 0, "a", "b", "c", "d")
	want(t, "Cut", h.Cut(0, "b"), true)
	wantGet(t, h, 0, "b", heap.Value{}, false)
	want(t, "Cut once more", h.Cut(0, "b"), true)
	want(t, "Cut of a fixed one", h.Cut(0, "c"), false)
	want(t, "Cut of a fixed one, again", h.Cut(0, "c"), false)
	wantKeys(t, h, 0, "a", "c", "d")
	for i, name := range []string{"a", "", "c", "d"} {
		if name != "" {
			wantGet(t, h, 0, name, heap.Of(i), true)
		}
	}
}

func TestPutBehindCut(t *testing.T) {
	h := small()
	for _, name := range []string{"a", "b", "c"} {
		put(t, h, 0, name, heap.Of(1), false)
	}
	want(t, "Cut", h.Cut(0, "a"), true)
	put(t, h, 0, "a", heap.Of(2), true) // new again: behind all, and fixed now
	wantKeys(t, h, 0, "b", "c", "a")
	wantGet(t, h, 0, "a", heap.Of(2), true)
	want(t, "Cut of a", h.Cut(0, "a"), false)
	want(t, "Cut of c", h.Cut(0, "c"), true)
	put(t, h, 0, "c", heap.Of(3), false)
	wantKeys(t, h, 0, "b", "a", "c")
	want(t, "Cut of c", h.Cut(0, "c"), true)
	want(t, "Cut of b", h.Cut(0, "b"), true)
	wantKeys(t, h, 0, "a")
}

func TestObjectsAreApart(t *testing.T) {
	var h heap.Heap
	a, b := h.Object(0), h.Object(5)
	put(t, &h, a, "x", heap.Of(1), true)
	wantGet(t, &h, b, "x", heap.Value{}, false)
	put(t, &h, b, "x", heap.Of(2), false)
	wantGet(t, &h, a, "x", heap.Of(1), true)
	want(t, "Cut", h.Cut(b, "x"), true)
	want(t, "Cut", h.Cut(a, "x"), false)
	wantKeys(t, &h, a, "x")
	wantKeys(t, &h, b)
	want(t, "Code", h.Code(a), 0)
	want(t, "Code", h.Code(b), 5)
}

// Objects that come later leave those that there are as they are.
func TestObjectsStay(t *testing.T) {
	var h heap.Heap
	for i := range 200 {
		put(t, &h, h.Object(0), "n", heap.Of(i), false)
	}
	for i := range 200 {
		wantGet(t, &h, i, "n", heap.Of(i), true)
	}
}

func TestManyProperties(t *testing.T) {
	h := small()
	var names []string
	for i := range 500 {
		names = append(names, "p"+strconv.Itoa(i))
		put(t, h, 0, names[i], heap.Of(i), i%2 == 0)
	}
	wantKeys(t, h, 0, names...)
	for i, name := range names {
		wantGet(t, h, 0, name, heap.Of(i), true)
		want(t, "Cut", h.Cut(0, name), i%2 == 1)
	}
	want(t, "properties", len(h.Keys(0)), 250)
}

// P4: what comes out is the caller's.
func TestKeysAreTheCallers(t *testing.T) {
	h := small()
	put(t, h, 0, "a", heap.Of(1), false)
	put(t, h, 0, "b", heap.Of(2), false)
	keys := h.Keys(0)
	keys[0] = "z"
	_ = append(keys[:1], "y")
	wantKeys(t, h, 0, "a", "b")
	before := h.Keys(0)
	want(t, "Cut", h.Cut(0, "a"), true)
	want(t, "a list told before", before[0]+before[1], "ab")
}
