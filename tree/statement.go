package tree

import (
	"sloppyscope/api"
	"sloppyscope/lex"
)

func (r *reader) program() *api.Node {
	var kids []*api.Node
	for r.token().Kind != lex.End {
		kids = append(kids, r.deeper(r.statement))
	}
	return code(node(api.Program, "", kids...))
}

// code is a program, or a function's block, with the Text that tells whether it is strict.
func code(n *api.Node) *api.Node {
	if len(n.Kids) > 0 && n.Kids[0].Kind == api.Expr {
		if v := n.Kids[0].Kids[0]; v.Kind == api.Str && v.Text == strictSaid {
			n.Text = strictText
		}
	}
	return n
}

func (r *reader) statement() *api.Node {
	if read, ok := r.statements[r.fixed()]; ok {
		return read()
	}
	v := r.deeper(r.value)
	r.must(";")
	return node(api.Expr, "", v)
}

// kind goes past the word that a statement begins with.
func (r *reader) kind() int {
	kind := headKind(r.token().Text)
	r.next++
	return kind
}

func (r *reader) declaration() *api.Node {
	n := node(r.kind(), r.name())
	if n.Kind == api.Const && r.fixed() != "=" {
		r.fail(api.ErrForm)
	}
	if r.take("=") {
		n.Kids = append(n.Kids, r.deeper(r.value))
	}
	r.must(";")
	return n
}

func (r *reader) function() *api.Node {
	r.must("function")
	name := r.name()
	return node(api.Func, name, r.parameters(), code(r.block()))
}

func (r *reader) parameters() *api.Node {
	return node(api.Params, "", r.list("(", ")", r.atName, r.parameter)...)
}

func (r *reader) parameter() *api.Node { return node(api.Name, r.name()) }

func (r *reader) block() *api.Node {
	r.must("{")
	var kids []*api.Node
	for !r.take("}") {
		kids = append(kids, r.deeper(r.statement))
	}
	return node(api.Block, "", kids...)
}

func (r *reader) empty() *api.Node {
	r.must(";")
	return node(api.Empty, "")
}

func (r *reader) choice() *api.Node {
	n := r.behindValue()
	if r.take("else") {
		n.Kids = append(n.Kids, r.deeper(r.statement))
	}
	return n
}

// behindValue reads a word, a value in parentheses, and the statement behind it.
func (r *reader) behindValue() *api.Node {
	kind := r.kind()
	v := r.inParentheses()
	return node(kind, "", v, r.deeper(r.statement))
}

// giving reads what is returned or thrown.
func (r *reader) giving() *api.Node {
	n := node(r.kind(), "")
	if n.Kind == api.Throw || r.fixed() != ";" {
		n.Kids = append(n.Kids, r.deeper(r.value))
	}
	r.must(";")
	return n
}

func (r *reader) attempt() *api.Node {
	r.must("try")
	n := node(api.Try, "", r.block())
	if r.take("catch") {
		r.must("(")
		name := r.name()
		r.must(")")
		n.Kids = append(n.Kids, node(api.Catch, name, r.block()))
	}
	if r.take("finally") {
		n.Kids = append(n.Kids, node(api.Finally, "", r.block()))
	}
	if len(n.Kids) == 1 {
		r.fail(api.ErrForm)
	}
	return n
}
