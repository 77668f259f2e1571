package run

import (
	"errors"

	"sloppyscope/api"
	"sloppyscope/heap"
)

// none is the number of no scope and no object.
const none = -1

// What is thrown where something can't be done.
const (
	badName   = "reference"
	badValue  = "type"
	tooMuch   = "range"
	badSource = "syntax"
)

// errStopped ends a program that takes too many steps. It is nothing that is thrown, so nobody catches it.
var errStopped = errors.New("sloppyscope: stopped")

// thrown is a value on its way to whoever catches it.
type thrown struct{ value heap.Value }

func (t *thrown) Error() string { return "sloppyscope: thrown" }

func throw(word string) error { return &thrown{value: heap.Say(word)} }

// machine is a program on its way. An error of its heap counts only where a chapter's sentence hangs on it: elsewhere there is none.
type machine struct {
	heap.Heap
	result    Result
	numbers   map[*api.Node]int // of the program's own nodes: those of eval'd code have none
	owners    []int             // of each scope
	functions []function        // by code, from firstMade on
	calls     int               // under way
	global    int               // the global object
	outermost int               // the global object's scope
	top       int               // the program's scope
}

// place is where code stands on its way.
type place struct {
	scope    int
	declares int // the scope in which eval'd code declares
	strict   bool
	last     *heap.Value // takes the value of each Expr; nil: it is no eval'd code's
}

func newMachine(n *api.Node) *machine {
	m := &machine{numbers: Number(n)}
	m.global = m.Object(0)
	m.outermost = m.open(none, m.global, Global)
	m.top = m.open(m.outermost, none, m.owner(n))
	m.give("print", printCode)
	m.give("eval", evalCode)
	return m
}

// give puts a function that is no program's into the global object.
func (m *machine) give(name string, code int) {
	m.Put(m.global, name, ref(m.Object(code)), false)
}

func ref(object int) heap.Value { return heap.Value{Kind: heap.Ref, N: object} }

// open is a new scope with its owner.
func (m *machine) open(outer, object, owner int) int {
	m.owners = append(m.owners, owner)
	return m.Scope(outer, object)
}

// owner is what a scope is known by that a node has.
func (m *machine) owner(n *api.Node) int {
	if number, ok := m.numbers[n]; ok {
		return number
	}
	return Evaled
}

// step is taken ahead of each statement and each value.
func (m *machine) step() error {
	m.result.Steps++
	if m.result.Steps > api.MaxSteps {
		return errStopped
	}
	return nil
}
