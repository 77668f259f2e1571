package where

import (
	"slices"

	"sloppyscope/run"
)

// scope is one that the text tells of.
type scope struct {
	owner int
	names []string
	open  bool // names may come into it that the text doesn't tell
	outer *scope
}

// place is where a node stands: by the scope around it, the innermost one.
type place struct {
	inner  *scope
	strict bool
}

// in is the place in a new scope.
func (p place) in(s scope) place {
	s.outer = p.inner
	p.inner = &s
	return p
}

// find is the owner of the first scope, from this one outwards, that has a name, and whether none ahead of it may come to have it.
func (s *scope) find(name string) (owner int, sure bool) {
	sure = true
	for ; s != nil; s = s.outer {
		if slices.Contains(s.names, name) {
			return s.owner, sure
		}
		sure = sure && !s.open
	}
	return run.Global, sure
}
