package run

import (
	"errors"

	"sloppyscope/api"
	"sloppyscope/heap"
)

// outcome of a statement: whether it returned, and what.
type outcome struct {
	returned bool
	value    heap.Value
}

// statements are done in order, up to one that returns or throws.
func (m *machine) statements(list []*api.Node, p place) (outcome, error) {
	for _, k := range list {
		if o, err := m.statement(k, p); o.returned || err != nil {
			return o, err
		}
	}
	return outcome{}, nil
}

func (m *machine) statement(n *api.Node, p place) (outcome, error) {
	if err := m.step(); err != nil {
		return outcome{}, err
	}
	switch n.Kind {
	case api.Var:
		return outcome{}, m.assignVar(n, p)
	case api.Let, api.Const:
		return outcome{}, m.start(n, p)
	case api.Block:
		return m.statements(n.Kids, m.block(n, p))
	case api.If:
		return m.choose(n, p)
	case api.While:
		return m.repeat(n, p)
	case api.With:
		return m.with(n, p)
	case api.Return:
		v, err := m.perhaps(n.Kids, p)
		return outcome{returned: err == nil, value: v}, err
	case api.Throw:
		return outcome{}, m.throwValue(n, p)
	case api.Try:
		return m.try(n, p)
	case api.Expr:
		return outcome{}, m.expression(n, p)
	}
	// Func and Empty do nothing: a function is declared ahead of the statements it stands among.
	return outcome{}, nil
}

// perhaps is the value that stands there, or Undefined.
func (m *machine) perhaps(kids []*api.Node, p place) (heap.Value, error) {
	if len(kids) == 0 {
		return heap.Value{}, nil
	}
	return m.value(kids[0], p)
}

func (m *machine) assignVar(n *api.Node, p place) error {
	if len(n.Kids) == 0 {
		return nil
	}
	// Where it lies is settled ahead of its value, which may change that.
	scope := m.Find(p.scope, n.Text)
	v, err := m.value(n.Kids[0], p)
	if err != nil {
		return err
	}
	return m.assign(scope, n.Text, v, p.strict)
}

func (m *machine) start(n *api.Node, p place) error {
	v, err := m.perhaps(n.Kids, p)
	if err != nil {
		return err
	}
	return m.Start(p.scope, n.Text, v)
}

func (m *machine) choose(n *api.Node, p place) (outcome, error) {
	v, err := m.value(n.Kids[0], p)
	switch {
	case err != nil:
		return outcome{}, err
	case v.True():
		return m.statement(n.Kids[1], p)
	case len(n.Kids) > 2:
		return m.statement(n.Kids[2], p)
	}
	return outcome{}, nil
}

func (m *machine) repeat(n *api.Node, p place) (outcome, error) {
	for {
		v, err := m.value(n.Kids[0], p)
		if err != nil || !v.True() {
			return outcome{}, err
		}
		if o, err := m.statement(n.Kids[1], p); o.returned || err != nil {
			return o, err
		}
	}
}

func (m *machine) with(n *api.Node, p place) (outcome, error) {
	object, err := m.object(n.Kids[0], p)
	if err != nil {
		return outcome{}, err
	}
	p.scope = m.open(p.scope, object, Object)
	return m.statement(n.Kids[1], p)
}

func (m *machine) throwValue(n *api.Node, p place) error {
	v, err := m.value(n.Kids[0], p)
	if err != nil {
		return err
	}
	return &thrown{value: v}
}

func (m *machine) expression(n *api.Node, p place) error {
	v, err := m.value(n.Kids[0], p)
	if err == nil && p.last != nil {
		*p.last = v
	}
	return err
}

func (m *machine) try(n *api.Node, p place) (outcome, error) {
	o, err := m.statement(n.Kids[0], p)
	for _, k := range n.Kids[1:] {
		if k.Kind == api.Catch {
			o, err = m.catch(k, p, o, err)
		} else {
			o, err = m.finally(k, p, o, err)
		}
	}
	return o, err
}

// catch takes what was thrown; all else goes on as it was.
func (m *machine) catch(n *api.Node, p place, o outcome, err error) (outcome, error) {
	var t *thrown
	if !errors.As(err, &t) {
		return o, err
	}
	p.scope = m.open(p.scope, none, m.owner(n))
	m.Declare(p.scope, n.Text, heap.Plain, t.value)
	return m.statement(n.Kids[0], p)
}

// finally has the last word, if it returns or throws.
func (m *machine) finally(n *api.Node, p place, o outcome, err error) (outcome, error) {
	if err == errStopped {
		return o, err
	}
	last, lastErr := m.statement(n.Kids[0], p)
	if last.returned || lastErr != nil {
		return last, lastErr
	}
	return o, err
}
