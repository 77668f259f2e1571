package heap

import (
	"slices"

	"sloppyscope/api"
)

// scope has an object's properties, or bindings: names of its own.
type scope struct {
	outer    int // a lesser number than its own, so that going outwards ends; none: nothing is around it
	object   int // none: its names are its own
	bindings []binding
}

type binding struct {
	name  string
	value Value
	kind  int
	ready bool
}

// Scope is a new one: of names (object -1), or of an object. An outer or an object that there isn't counts as -1.
func (h *Heap) Scope(outer, object int) (_ int) {
	s := scope{outer: outer, object: object}
	if at(h.scopes, outer) == nil {
		s.outer = none
	}
	if at(h.objects, object) == nil {
		s.object = none
	}
	h.scopes = append(h.scopes, s)
	return len(h.scopes) - 1
}

// Declare puts a name into a scope of names; of Late and Final not ready. ErrMissing: no such scope; ErrArg: it is an object's; ErrTwice: the name is there.
func (h *Heap) Declare(scope int, name string, kind int, v Value) (_ error) {
	s := at(h.scopes, scope)
	switch {
	case s == nil:
		return api.ErrMissing
	case s.object != none:
		return api.ErrArg
	case s.binding(name) != nil:
		return api.ErrTwice
	}
	ready := kind != Late && kind != Final
	s.bindings = append(s.bindings, binding{name: name, value: v, kind: kind, ready: ready})
	return nil
}

// ObjectOf is the object whose names a scope has (-1: none).
func (h *Heap) ObjectOf(scope int) (_ int) {
	if s := at(h.scopes, scope); s != nil {
		return s.object
	}
	return none
}

// OuterOf is the scope around one (-1: none).
func (h *Heap) OuterOf(scope int) (_ int) {
	if s := at(h.scopes, scope); s != nil {
		return s.outer
	}
	return none
}

// KindOf is the kind of a scope's own binding (-1: it has none, or is an object's).
func (h *Heap) KindOf(scope int, name string) (_ int) {
	if b := at(h.scopes, scope).binding(name); b != nil {
		return b.kind
	}
	return none
}

// Has says whether a scope itself has a name.
func (h *Heap) Has(scope int, name string) (_ bool) {
	if at(h.scopes, scope).binding(name) != nil {
		return true
	}
	_, ok := h.Get(h.ObjectOf(scope), name)
	return ok
}

// Find is the scope, from one on outwards, that has a name (-1: none has).
func (h *Heap) Find(scope int, name string) (_ int) {
	for at(h.scopes, scope) != nil {
		if h.Has(scope, name) {
			return scope
		}
		scope = h.OuterOf(scope)
	}
	return none
}

// Read is what a scope's name is. ErrMissing: it hasn't it; ErrState: it isn't ready.
func (h *Heap) Read(scope int, name string) (_ Value, _ error) {
	b := at(h.scopes, scope).binding(name)
	if b == nil {
		return h.readProperty(h.ObjectOf(scope), name)
	}
	if !b.ready {
		return Value{}, api.ErrState
	}
	return b.value, nil
}

func (h *Heap) readProperty(object int, name string) (Value, error) {
	v, ok := h.Get(object, name)
	if !ok {
		return Value{}, api.ErrMissing
	}
	return v, nil
}

// Start makes a scope's name ready, and sets it. ErrMissing: it hasn't it (or it is an object's).
func (h *Heap) Start(scope int, name string, v Value) (_ error) {
	b := at(h.scopes, scope).binding(name)
	if b == nil {
		return api.ErrMissing
	}
	b.value, b.ready = v, true
	return nil
}

// Write sets a scope's name. ErrMissing: it hasn't it; ErrState: it isn't ready; ErrArg: it is const; ErrName: it is a function's own name (nothing is set then).
func (h *Heap) Write(scope int, name string, v Value) (_ error) {
	if !h.Has(scope, name) {
		return api.ErrMissing
	}
	b := at(h.scopes, scope).binding(name)
	switch {
	case b == nil:
		return h.Put(h.ObjectOf(scope), name, v, false)
	case !b.ready:
		return api.ErrState
	case b.kind == Final:
		return api.ErrArg
	case b.kind == Own:
		return api.ErrName
	}
	b.value = v
	return nil
}

// Drop deletes a scope's name: what eval declared, or an object's; false: it can't be.
func (h *Heap) Drop(scope int, name string) (_ bool) {
	s := at(h.scopes, scope)
	b := s.binding(name)
	if b == nil {
		return h.Cut(h.ObjectOf(scope), name)
	}
	if b.kind != Loose {
		return false
	}
	s.bindings = slices.DeleteFunc(s.bindings, func(b binding) bool { return b.name == name })
	return true
}

// binding is the one of a name of its own; nil: there is none, nor of no scope.
func (s *scope) binding(name string) *binding {
	if s == nil {
		return nil
	}
	return first(s.bindings, func(b *binding) bool { return b.name == name })
}
