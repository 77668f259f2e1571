package tree

import (
	"sloppyscope/api"
	"sloppyscope/lex"
)

// A part reads one part of a program, from the reader's token on.
type part func() *api.Node

// reader goes through tokens, of which the last one is End: no part ever takes that one.
type reader struct {
	tokens     []lex.Token
	next       int
	deep       int
	signs      map[string]sign
	statements map[string]part
	values     map[string]part
}

// fault is what is thrown where a token can't stand.
type fault struct {
	err   api.Errno
	place int
}

func newReader(tokens []lex.Token) *reader {
	r := &reader{tokens: tokens, signs: signsByText()}
	r.statements = map[string]part{
		"var": r.declaration, "let": r.declaration, "const": r.declaration,
		"function": r.function, "{": r.block, ";": r.empty,
		"if": r.choice, "while": r.behindValue, "with": r.behindValue,
		"return": r.giving, "throw": r.giving, "try": r.attempt,
	}
	r.values = map[string]part{
		"(": r.inParentheses, "{": r.object, "function": r.lambda,
	}
	return r
}

// read is the program of the tokens.
func read(tokens []lex.Token) (n *api.Node, err error) {
	defer func() {
		thrown := recover()
		if thrown == nil {
			return
		}
		f, ok := thrown.(fault)
		if !ok {
			panic(thrown)
		}
		n, err = nil, &api.At{Err: f.err, Place: f.place}
	}()
	return newReader(tokens).program(), nil
}

func (r *reader) token() lex.Token { return r.tokens[r.next] }

func (r *reader) fail(err api.Errno) { r.failAt(err, r.token()) }

func (r *reader) failAt(err api.Errno, t lex.Token) {
	panic(fault{err: err, place: t.At})
}

// fixed is the token's text, if it is a word or sign: a String may say the same, and is none.
func (r *reader) fixed() string {
	if t := r.token(); t.Kind == lex.Word || t.Kind == lex.Sign {
		return t.Text
	}
	return ""
}

// take goes past a word or sign, if it is that.
func (r *reader) take(text string) bool {
	if r.fixed() != text {
		return false
	}
	r.next++
	return true
}

func (r *reader) must(text string) {
	if !r.take(text) {
		r.fail(api.ErrForm)
	}
}

func (r *reader) atName() bool { return r.token().Kind == lex.Name }

func (r *reader) name() string {
	if !r.atName() {
		r.fail(api.ErrForm)
	}
	name := r.token().Text
	r.next++
	return name
}

// deeper reads a part that is one deeper than what it stands in. Whether it can begin here is asked behind that.
func (r *reader) deeper(read part) *api.Node {
	if r.deep == api.MaxDeep {
		r.fail(api.ErrLimit)
	}
	r.deep++
	n := read()
	r.deep--
	return n
}

// list reads parts with commas between, in their signs. Only one that begins can be one too many.
func (r *reader) list(open, shut string, begins func() bool, read part) []*api.Node {
	r.must(open)
	if r.take(shut) {
		return nil
	}
	var parts []*api.Node
	for {
		if len(parts) == api.MaxParams && begins() {
			r.fail(api.ErrLimit)
		}
		parts = append(parts, read())
		if r.take(shut) {
			return parts
		}
		r.must(",")
	}
}
