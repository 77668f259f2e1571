package heap_test

import (
	"cmp"
	"math/rand"
	"slices"
	"testing"

	"sloppyscope/api"
	"sloppyscope/heap"
)

// words are the words of 5.2 and 5.3, written down a second time, in maps: what a heap is to answer.
type words struct {
	codes  []int
	scopes []place
	props  map[key]prop
	names  map[key]held
	clock  int // when a property came
}

type place struct{ outer, object int }

// key is an object's number, or a scope's, and a name.
type key struct {
	of   int
	name string
}

type prop struct {
	value heap.Value
	fixed bool
	came  int
}

type held struct {
	value heap.Value
	kind  int
	ready bool
}

func (w *words) isObject(n int) bool { return n >= 0 && n < len(w.codes) }

func (w *words) isScope(n int) bool { return n >= 0 && n < len(w.scopes) }

func (w *words) objectOf(scope int) int {
	if !w.isScope(scope) {
		return -1
	}
	return w.scopes[scope].object
}

func (w *words) outerOf(scope int) int {
	if !w.isScope(scope) {
		return -1
	}
	return w.scopes[scope].outer
}

func (w *words) keys(object int) (l []string) {
	for k := range w.props {
		if k.of == object {
			l = append(l, k.name)
		}
	}
	slices.SortFunc(l, func(a, b string) int {
		return cmp.Compare(w.props[key{object, a}].came, w.props[key{object, b}].came)
	})
	return l
}

func (w *words) put(object int, name string, v heap.Value, fixed bool) api.Errno {
	if !w.isObject(object) {
		return api.ErrMissing
	}
	p, there := w.props[key{object, name}]
	if !there {
		w.clock++
		p = prop{fixed: fixed, came: w.clock}
	}
	p.value = v
	w.props[key{object, name}] = p
	return api.OK
}

func (w *words) cut(object int, name string) bool {
	if w.props[key{object, name}].fixed {
		return false
	}
	delete(w.props, key{object, name})
	return true
}

func (w *words) declare(scope int, name string, kind int, v heap.Value) api.Errno {
	switch {
	case !w.isScope(scope):
		return api.ErrMissing
	case w.objectOf(scope) >= 0:
		return api.ErrArg
	case w.has(scope, name):
		return api.ErrTwice
	}
	w.names[key{scope, name}] = held{v, kind, kind != heap.Late && kind != heap.Final}
	return api.OK
}

func (w *words) has(scope int, name string) bool {
	_, own := w.names[key{scope, name}]
	_, property := w.props[key{w.objectOf(scope), name}]
	return own || property
}

func (w *words) find(scope int, name string) int {
	if !w.isScope(scope) {
		return -1
	}
	if w.has(scope, name) {
		return scope
	}
	return w.find(w.outerOf(scope), name)
}

func (w *words) read(scope int, name string) (heap.Value, api.Errno) {
	b := w.names[key{scope, name}]
	switch {
	case !w.has(scope, name):
		return heap.Value{}, api.ErrMissing
	case w.objectOf(scope) >= 0:
		return w.props[key{w.objectOf(scope), name}].value, api.OK
	case !b.ready:
		return heap.Value{}, api.ErrState
	}
	return b.value, api.OK
}

func (w *words) start(scope int, name string, v heap.Value) api.Errno {
	b, own := w.names[key{scope, name}]
	if !own {
		return api.ErrMissing
	}
	w.names[key{scope, name}] = held{v, b.kind, true}
	return api.OK
}

func (w *words) write(scope int, name string, v heap.Value) api.Errno {
	b := w.names[key{scope, name}]
	switch {
	case !w.has(scope, name):
		return api.ErrMissing
	case w.objectOf(scope) >= 0:
		return w.put(w.objectOf(scope), name, v, false)
	case !b.ready:
		return api.ErrState
	case b.kind == heap.Final:
		return api.ErrArg
	case b.kind == heap.Own:
		return api.ErrName
	}
	return w.start(scope, name, v)
}

func (w *words) drop(scope int, name string) bool {
	switch {
	case !w.has(scope, name):
		return true
	case w.objectOf(scope) >= 0:
		return w.cut(w.objectOf(scope), name)
	case w.names[key{scope, name}].kind != heap.Loose:
		return false
	}
	delete(w.names, key{scope, name})
	return true
}

func (w *words) kindOf(scope int, name string) int {
	if b, own := w.names[key{scope, name}]; own {
		return b.kind
	}
	return -1
}

// maker draws what a heap is asked.
type maker struct{ *rand.Rand }

func (m maker) name() string { return []string{"a", "b", "c", ""}[m.Intn(4)] }

// number is mostly of one that there is, seldom one below, or beyond.
func (m maker) number(many int) int { return m.Intn(many+2) - m.Intn(20)/19 }

func (m maker) value() heap.Value {
	return []heap.Value{{}, {Kind: heap.Null}, heap.Is(m.Intn(2) == 0), heap.Of(m.Intn(9)), heap.Say(m.name()), ref(m.Intn(5))}[m.Intn(6)]
}

// grow makes an object, or a scope, of the heap and of the words.
func (m maker) grow(t *testing.T, h *heap.Heap, w *words) {
	t.Helper()
	if m.Intn(2) == 0 {
		code := m.Intn(3)
		want(t, "Object", h.Object(code), len(w.codes))
		w.codes = append(w.codes, code)
		return
	}
	p := place{m.Intn(len(w.scopes)+1) - 1, -1}
	if m.Intn(2) == 0 {
		p.object = m.Intn(len(w.codes)+1) - 1
	}
	want(t, "Scope", h.Scope(p.outer, p.object), len(w.scopes))
	w.scopes = append(w.scopes, p)
}

// change asks both for the same change.
func (m maker) change(t *testing.T, h *heap.Heap, w *words) {
	t.Helper()
	o, s, name, v := m.number(len(w.codes)), m.number(len(w.scopes)), m.name(), m.value()
	switch m.Intn(12) {
	case 0:
		m.grow(t, h, w)
	case 1, 2:
		fixed := m.Intn(4) == 0
		wantError(t, "Put", h.Put(o, name, v, fixed), w.put(o, name, v, fixed))
	case 3:
		want(t, "Cut", h.Cut(o, name), w.cut(o, name))
	case 4, 5, 6:
		kind := m.Intn(5)
		wantError(t, "Declare", h.Declare(s, name, kind, v), w.declare(s, name, kind, v))
	case 7:
		wantError(t, "Start", h.Start(s, name, v), w.start(s, name, v))
	case 8, 9:
		wantError(t, "Write", h.Write(s, name, v), w.write(s, name, v))
	default:
		want(t, "Drop", h.Drop(s, name), w.drop(s, name))
	}
}

// wantWords: all that can be asked is as the words have it.
func wantWords(t *testing.T, h *heap.Heap, w *words) {
	t.Helper()
	wantMany(t, h, len(w.codes), len(w.scopes))
	for o := -2; o < len(w.codes)+2; o++ {
		wantKeys(t, h, o, w.keys(o)...)
		code := 0
		if w.isObject(o) {
			code = w.codes[o]
		}
		want(t, "Code", h.Code(o), code)
		for _, name := range []string{"a", "b", "c", ""} {
			p, there := w.props[key{o, name}]
			wantGet(t, h, o, name, p.value, there)
		}
	}
	for s := -2; s < len(w.scopes)+2; s++ {
		want(t, "ObjectOf", h.ObjectOf(s), w.objectOf(s))
		want(t, "OuterOf", h.OuterOf(s), w.outerOf(s))
		for _, name := range []string{"a", "b", "c", ""} {
			want(t, "Has", h.Has(s, name), w.has(s, name))
			want(t, "Find", h.Find(s, name), w.find(s, name))
			want(t, "KindOf", h.KindOf(s, name), w.kindOf(s, name))
			v, e := w.read(s, name)
			wantRead(t, h, s, name, v, e)
		}
	}
}

func TestMadeHeaps(t *testing.T) {
	for seed := range 100 {
		m := maker{rand.New(rand.NewSource(int64(seed)))}
		h, w := &heap.Heap{}, &words{props: map[key]prop{}, names: map[key]held{}}
		for range 150 {
			m.change(t, h, w)
			wantWords(t, h, w)
		}
		if t.Failed() {
			t.Fatalf("made with %d", seed)
		}
	}
}
