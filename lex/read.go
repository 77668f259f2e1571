package lex

import (
	"strconv"
	"strings"

	"sloppyscope/api"
)

// maxDigits is how many digits a number may have, whatever it is.
const maxDigits = 10

// The first one that fits is taken, so === stands ahead of =.
var signs = [...]string{
	"===", "&&", "||",
	"(", ")", "{", "}", "[", "]", ";", ":", ",", ".", "=", "+", "-", "*", "<", "!",
}

// read is the token that begins at a byte of the text, and the place behind it.
func read(text string, at int) (Token, int, error) {
	switch b := text[at]; {
	case letter()(b):
		return readName(text, at)
	case digit()(b):
		return readNumber(text, at)
	case b == '\'':
		return readString(text, at)
	}
	return readSign(text, at)
}

// fail is what a reader answers if something is wrong at a byte.
func fail(e api.Errno, at int) (Token, int, error) {
	return Token{}, 0, &api.At{Err: e, Place: at}
}

func readName(text string, at int) (Token, int, error) {
	end := past(text, at, letterOrDigit())
	name := text[at:end]
	if IsWord(name) {
		return Token{Kind: Word, Text: name, At: at}, end, nil
	}
	if len(name) > maxName {
		return fail(api.ErrLimit, at)
	}
	return Token{Kind: Name, Text: name, At: at}, end, nil
}

func readNumber(text string, at int) (Token, int, error) {
	end := past(text, at, digit())
	digits := text[at:end]
	if len(digits) > maxDigits || len(digits) > 1 && digits[0] == '0' {
		return fail(api.ErrForm, at)
	}
	n, err := strconv.Atoi(digits)
	if err != nil || n > api.MaxNumber {
		return fail(api.ErrRange, at)
	}
	return Token{Kind: Number, N: n, At: at}, end, nil
}

func readString(text string, at int) (Token, int, error) {
	var said []byte
	for i := at + 1; i < len(text); i++ {
		b := text[i]
		switch b {
		case '\'':
			// Only a string that ends can be too long: what is wrong within it is told first.
			if len(said) > api.MaxString {
				return fail(api.ErrLimit, at)
			}
			return Token{Kind: String, Text: string(said), At: at}, i + 1, nil
		case '\n':
			return fail(api.ErrForm, i)
		case '\\':
			i++
			meant, ok := escaped(text, i)
			if !ok {
				return fail(api.ErrForm, i)
			}
			b = meant
		}
		said = append(said, b)
	}
	return fail(api.ErrForm, len(text))
}

// escaped is the byte that the one at a place stands for behind a backslash; false: it stands for none, or the text ends there.
func escaped(text string, at int) (byte, bool) {
	if at >= len(text) {
		return 0, false
	}
	switch text[at] {
	case 'n':
		return '\n', true
	case '\'', '\\':
		return text[at], true
	}
	return 0, false
}

func readSign(text string, at int) (Token, int, error) {
	for _, s := range signs {
		if strings.HasPrefix(text[at:], s) {
			return Token{Kind: Sign, Text: s, At: at}, at + len(s), nil
		}
	}
	return fail(api.ErrForm, at)
}
