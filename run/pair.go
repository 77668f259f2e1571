package run

import (
	"sloppyscope/api"
	"sloppyscope/heap"
)

// pair is a value of two others, both of which are worked out first.
func (m *machine) pair(n *api.Node, p place) (heap.Value, error) {
	both, err := m.values(n.Kids, p)
	if err != nil {
		return heap.Value{}, err
	}
	a, b := both[0], both[1]
	switch {
	case n.Kind == api.Same:
		return heap.Is(a == b), nil
	case a.Kind == heap.Number && b.Kind == heap.Number:
		return ofNumbers(n.Kind, int64(a.N), int64(b.N))
	case n.Kind == api.Add && (a.Kind == heap.Text || b.Kind == heap.Text):
		return join(m.Show(a), m.Show(b))
	case n.Kind == api.Less && a.Kind == heap.Text && b.Kind == heap.Text:
		return heap.Is(a.S < b.S), nil
	}
	return heap.Value{}, throw(badValue)
}

// ofNumbers: 64 bits hold whatever two numbers come to.
func ofNumbers(kind int, a, b int64) (heap.Value, error) {
	switch kind {
	case api.Less:
		return heap.Is(a < b), nil
	case api.Add:
		return number(a + b)
	case api.Sub:
		return number(a - b)
	}
	return number(a * b)
}

func number(n int64) (heap.Value, error) {
	if n < -api.MaxNumber || n > api.MaxNumber {
		return heap.Value{}, throw(tooMuch)
	}
	return heap.Of(int(n)), nil
}

func join(a, b string) (heap.Value, error) {
	if len(a)+len(b) > api.MaxString {
		return heap.Value{}, throw(tooMuch)
	}
	return heap.Say(a + b), nil
}
