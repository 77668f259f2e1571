package tree

import (
	"strings"

	"sloppyscope/api"
)

// writer puts tokens one behind the other, with a blank between two where there must be one.
type writer struct {
	text  strings.Builder
	last  string // the token that was put last, empty in a new line
	signs map[int]sign
}

func newWriter() *writer { return &writer{signs: signsByKind()} }

func (w *writer) endLine() {
	w.text.WriteByte('\n')
	w.last = ""
}

// put puts tokens as most of them stand.
func (w *writer) put(tokens ...string) {
	for _, t := range tokens {
		if !w.opened() && !closes(t) {
			w.text.WriteByte(' ')
		}
		w.close(t)
	}
}

// close puts a token close to the last one.
func (w *writer) close(token string) {
	w.text.WriteString(token)
	w.last = token
}

// opened says whether nothing is to stand between the last token and the next one.
func (w *writer) opened() bool {
	switch w.last {
	case "", "(", "!", ".", "{":
		return true
	}
	return false
}

// closes says whether nothing is to stand ahead of a token.
func closes(token string) bool {
	switch token {
	case ";", ",", ")", ":", ".", "}":
		return true
	}
	return false
}

func (w *writer) statement(n *api.Node) {
	switch n.Kind {
	case api.Var, api.Let, api.Const:
		w.put(headText(n.Kind), n.Text)
		if len(n.Kids) > 0 {
			w.put("=")
		}
		w.lastValue(n)
	case api.Return, api.Throw:
		w.put(headText(n.Kind))
		w.lastValue(n)
	case api.Func:
		w.function(n)
	case api.Block:
		w.block(n)
	case api.If, api.While, api.With:
		w.behindValue(n)
	case api.Try:
		w.attempt(n)
	case api.Expr:
		w.expression(n)
	case api.Empty:
		w.empty()
	}
}

// lastValue puts a statement's value, if it has one, and its end.
func (w *writer) lastValue(n *api.Node) {
	for _, v := range n.Kids {
		w.value(v, assigning)
	}
	w.put(";")
}

func (w *writer) function(n *api.Node) {
	w.put("function")
	if n.Text != "" {
		w.put(n.Text)
	}
	w.list("(", ")", n.Kids[0].Kids)
	w.block(n.Kids[1])
}

func (w *writer) block(n *api.Node) {
	w.put("{")
	for _, k := range n.Kids {
		w.statement(k)
	}
	w.put("}")
}

func (w *writer) behindValue(n *api.Node) {
	w.put(headText(n.Kind), "(")
	w.value(n.Kids[0], assigning)
	w.put(")")
	w.statement(n.Kids[1])
	if len(n.Kids) > 2 {
		w.put("else")
		w.statement(n.Kids[2])
	}
}

func (w *writer) attempt(n *api.Node) {
	w.put("try")
	for _, k := range n.Kids {
		switch k.Kind {
		case api.Block:
			w.block(k)
		case api.Catch:
			w.put("catch", "(", k.Text, ")")
			w.block(k.Kids[0])
		case api.Finally:
			w.put("finally")
			w.block(k.Kids[0])
		}
	}
}

func (w *writer) expression(n *api.Node) {
	v := n.Kids[0]
	if w.opensStatement(v) {
		w.inParentheses(v)
	} else {
		w.value(v, assigning)
	}
	w.put(";")
}

// empty puts a ; that would else look like the end of what stands ahead of it.
func (w *writer) empty() {
	if !w.opened() {
		w.text.WriteByte(' ')
	}
	w.close(";")
}
