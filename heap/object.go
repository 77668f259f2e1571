package heap

import (
	"slices"

	"sloppyscope/api"
)

// object has its properties in the order in which they came.
type object struct {
	code       int // 0: it is no function
	properties []property
}

type property struct {
	name  string
	value Value
	fixed bool // it can't be cut
}

// Object is a new one.
func (h *Heap) Object(code int) (_ int) {
	h.objects = append(h.objects, object{code: code})
	return len(h.objects) - 1
}

// Code is an object's; 0: there is none.
func (h *Heap) Code(object int) (_ int) {
	if o := at(h.objects, object); o != nil {
		return o.code
	}
	return 0
}

// Get is an object's property; false: it has none.
func (h *Heap) Get(object int, name string) (_ Value, _ bool) {
	if p := at(h.objects, object).property(name); p != nil {
		return p.value, true
	}
	return Value{}, false
}

// Put sets an object's property, a new one behind all; fixed counts for a new one alone. ErrMissing: no such object.
func (h *Heap) Put(object int, name string, v Value, fixed bool) (_ error) {
	o := at(h.objects, object)
	if o == nil {
		return api.ErrMissing
	}
	if p := o.property(name); p != nil {
		p.value = v
		return nil
	}
	o.properties = append(o.properties, property{name: name, value: v, fixed: fixed})
	return nil
}

// Cut deletes an object's property; false: it is fixed.
func (h *Heap) Cut(object int, name string) (_ bool) {
	o := at(h.objects, object)
	p := o.property(name)
	if p == nil {
		return true
	}
	if p.fixed {
		return false
	}
	o.properties = slices.DeleteFunc(o.properties, func(p property) bool { return p.name == name })
	return true
}

// Keys are the names of an object's properties, in order.
func (h *Heap) Keys(object int) (_ []string) {
	o := at(h.objects, object)
	if o == nil {
		return nil
	}
	keys := make([]string, len(o.properties))
	for i, p := range o.properties {
		keys[i] = p.name
	}
	return keys
}

// property is the one of a name; nil: there is none, nor of no object.
func (o *object) property(name string) *property {
	if o == nil {
		return nil
	}
	return first(o.properties, func(p *property) bool { return p.name == name })
}
