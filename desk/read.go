package desk

import (
	"strconv"
	"strings"

	"sloppyscope/api"
	"sloppyscope/tree"
)

// word is what stands ahead of the first blank, and what is behind that one. A word may be empty, or missing: nothing refuses it here, as whoever takes it tells what is wrong then.
func word(text string) (first, rest string) {
	first, rest, _ = strings.Cut(text, " ")
	return first, rest
}

// number is that of a word, which must be written as numbers are told: there is one way for each.
func number(digits string) int {
	n, err := strconv.ParseInt(digits, 10, 64)
	if err != nil || strconv.FormatInt(n, 10) != digits {
		panic(fault{api.ErrForm})
	}
	return int(n)
}

// program is that of all that is left of a line.
func program(rest string) *api.Node {
	n, err := tree.Parse(rest)
	must(err)
	return n
}
