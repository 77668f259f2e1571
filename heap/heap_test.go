package heap_test

import (
	"math"
	"slices"
	"testing"

	"sloppyscope/api"
	"sloppyscope/heap"
)

// wantError: an error of a Heap never has a place.
func wantError(t *testing.T, what string, err error, want api.Errno) {
	t.Helper()
	if want == api.OK && err == nil || want != api.OK && err == error(want) {
		return
	}
	t.Errorf("%s: error %v (%d), want error %d", what, err, api.Tell(err), want)
}

func want[T comparable](t *testing.T, what string, got, want T) {
	t.Helper()
	if got != want {
		t.Errorf("%s: %v, want %v", what, got, want)
	}
}

func wantGet(t *testing.T, h *heap.Heap, object int, name string, v heap.Value, there bool) {
	t.Helper()
	got, ok := h.Get(object, name)
	if got != v || ok != there {
		t.Errorf("Get(%d, %q): %v %v, want %v %v", object, name, got, ok, v, there)
	}
}

func wantRead(t *testing.T, h *heap.Heap, scope int, name string, v heap.Value, e api.Errno) {
	t.Helper()
	got, err := h.Read(scope, name)
	wantError(t, "Read of "+name, err, e)
	want(t, "Read of "+name, got, v)
}

func wantKeys(t *testing.T, h *heap.Heap, object int, keys ...string) {
	t.Helper()
	if got := h.Keys(object); !slices.Equal(got, keys) {
		t.Errorf("Keys(%d): %q, want %q", object, got, keys)
	}
}

func wantMany(t *testing.T, h *heap.Heap, objects, scopes int) {
	t.Helper()
	if o, s := h.Many(); o != objects || s != scopes {
		t.Errorf("Many: %d %d, want %d %d", o, s, objects, scopes)
	}
}

// far are numbers of which there is neither an object nor a scope, while there are fewer than 50.
func far() []int {
	return []int{math.MinInt, -1000, -2, -1, 50, 1 << 31, 1 << 32, math.MaxInt}
}

// kinds are all kinds of names.
func kinds() []int { return []int{heap.Plain, heap.Late, heap.Final, heap.Own, heap.Loose} }

// A heap with an object and a scope of its own names, both of number 0.
func small() *heap.Heap {
	h := &heap.Heap{}
	h.Object(0)
	h.Scope(-1, -1)
	return h
}

func TestEmpty(t *testing.T) {
	var h heap.Heap
	wantMany(t, &h, 0, 0)
	wantNothing(t, &h, append(far(), 0, 1))
	wantMany(t, &h, 0, 0)
}

func TestNumbersThatThereAreNot(t *testing.T) {
	h := &heap.Heap{}
	h.Object(7)
	o := h.Object(1)
	s := h.Scope(-1, o)
	own := h.Scope(s, -1)
	wantError(t, "Put", h.Put(o, "a", heap.Of(1), false), api.OK)
	wantError(t, "Declare", h.Declare(own, "a", heap.Loose, heap.Of(2)), api.OK)
	wantNothing(t, h, append(far(), 2))
	wantMany(t, h, 2, 2)
	wantGet(t, h, o, "a", heap.Of(1), true)
	wantRead(t, h, own, "a", heap.Of(2), api.OK)
	wantKeys(t, h, 0)
}

// wantNothing: there is neither an object nor a scope of these numbers, and none comes to be.
func wantNothing(t *testing.T, h *heap.Heap, numbers []int) {
	t.Helper()
	for _, n := range numbers {
		for _, name := range []string{"a", ""} {
			wantError(t, "Put", h.Put(n, name, heap.Of(3), false), api.ErrMissing)
			wantError(t, "Put fixed", h.Put(n, name, heap.Of(3), true), api.ErrMissing)
			wantGet(t, h, n, name, heap.Value{}, false)
			want(t, "Cut", h.Cut(n, name), true)
			for _, k := range kinds() {
				wantError(t, "Declare", h.Declare(n, name, k, heap.Of(3)), api.ErrMissing)
			}
			want(t, "Has", h.Has(n, name), false)
			want(t, "Find", h.Find(n, name), -1)
			wantRead(t, h, n, name, heap.Value{}, api.ErrMissing)
			wantError(t, "Start", h.Start(n, name, heap.Of(3)), api.ErrMissing)
			wantError(t, "Write", h.Write(n, name, heap.Of(3)), api.ErrMissing)
			want(t, "Drop", h.Drop(n, name), true)
			want(t, "KindOf", h.KindOf(n, name), -1)
		}
		want(t, "Code", h.Code(n), 0)
		wantKeys(t, h, n)
		want(t, "ObjectOf", h.ObjectOf(n), -1)
		want(t, "OuterOf", h.OuterOf(n), -1)
		want(t, "Show", h.Show(heap.Value{Kind: heap.Ref, N: n}), "object")
	}
}

func TestNumbersFromNoughtOn(t *testing.T) {
	var h heap.Heap
	for i := range 300 {
		want(t, "Object", h.Object(i%3), i)
		wantMany(t, &h, i+1, i)
		want(t, "Scope", h.Scope(i-1, -1), i)
		wantMany(t, &h, i+1, i+1)
	}
	for i := range 300 {
		want(t, "Code", h.Code(i), i%3)
		want(t, "OuterOf", h.OuterOf(i), i-1)
	}
}

func TestHeapsAreApart(t *testing.T) {
	a, b := small(), small()
	wantError(t, "Put", a.Put(0, "x", heap.Of(1), false), api.OK)
	wantError(t, "Declare", a.Declare(0, "x", heap.Plain, heap.Of(1)), api.OK)
	wantGet(t, b, 0, "x", heap.Value{}, false)
	want(t, "Has", b.Has(0, "x"), false)
}
