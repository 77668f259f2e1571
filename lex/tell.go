package lex

import "strings"

// A teller says of a byte whether it is of a kind.
type teller func(b byte) bool

func between(low, high byte) teller {
	return func(b byte) bool { return low <= b && b <= high }
}

func among(set string) teller {
	return func(b byte) bool { return strings.IndexByte(set, b) >= 0 }
}

func either(one, other teller) teller {
	return func(b byte) bool { return one(b) || other(b) }
}

func letter() teller { return either(between('a', 'z'), among("_")) }

func digit() teller { return between('0', '9') }

func letterOrDigit() teller { return either(letter(), digit()) }

// past is the first place from at on whose byte is of another kind, or the text's end.
func past(text string, at int, kind teller) int {
	for at < len(text) && kind(text[at]) {
		at++
	}
	return at
}
