// Package lex: words of a program.
package lex

import (
	"sloppyscope/api"
)

// Kinds of tokens.
const (
	Name   = iota + 1
	Word   // of the language
	Number // N
	String // Text is what it says
	Sign
	End
)

// Token is one, and where it begins.
type Token struct {
	Kind int
	Text string
	N    int
	At   int
}

// maxName is how many bytes a name may have.
const maxName = 20

var words = [...]string{
	"var", "let", "const", "function", "if", "else", "while", "with", "return", "throw",
	"try", "catch", "finally", "typeof", "delete", "true", "false", "null", "undefined",
}

// IsWord says whether a text is a word of the language.
func IsWord(s string) (_ bool) {
	for _, w := range words {
		if s == w {
			return true
		}
	}
	return false
}

// IsName says whether a text may be a name: 1 to 20 of a to z, 0 to 9 and _, no digit first, no word of the language.
func IsName(s string) (_ bool) {
	if s == "" || len(s) > maxName {
		return false
	}
	return letter()(s[0]) && past(s, 0, letterOrDigit()) == len(s) && !IsWord(s)
}

// Tokens are a text's, End last. Errors are an At at a byte, but that of a text that is too long.
func Tokens(text string) (_ []Token, _ error) {
	if len(text) > api.MaxSource {
		// No token is read then, so there is no byte to tell of.
		return nil, api.ErrLimit
	}
	gap := among(" \n")
	var tokens []Token
	at := past(text, 0, gap)
	for at < len(text) {
		token, end, err := read(text, at)
		if err != nil {
			return nil, err
		}
		tokens = append(tokens, token)
		at = past(text, end, gap)
	}
	return append(tokens, Token{Kind: End, At: len(text)}), nil
}
