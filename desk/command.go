package desk

import (
	"strings"

	"sloppyscope/alpha"
	"sloppyscope/api"
	"sloppyscope/early"
	"sloppyscope/fold"
	"sloppyscope/hoist"
	"sloppyscope/many"
	"sloppyscope/where"
)

const helpText = "check fold free help names rename run text where"

// command is a line's first word, and what such a line tells, by what stands behind that word.
type command struct {
	first string
	tell  func(rest string) string
}

func commands() []command {
	return []command{
		{"check", tellCheck},
		{"fold", tellFold},
		{"free", tellFree},
		{"help", tellHelp},
		{"names", tellNames},
		{"rename", tellRename},
		{"run", tellRun},
		{"text", tellText},
		{"where", tellWhere},
	}
}

func commandOf(first string, known []command) command {
	for _, c := range known {
		if c.first == first {
			return c
		}
	}
	panic(fault{api.ErrForm})
}

func tellCheck(rest string) string {
	must(early.Check(program(rest), false, false))
	return "right"
}

func tellFold(rest string) string { return shown(fold.Fold(program(rest))) }

func tellFree(rest string) string { return strings.Join(hoist.Free(program(rest)), " ") }

func tellHelp(rest string) string {
	if rest != "" {
		panic(fault{api.ErrForm})
	}
	return helpText
}

func tellNames(rest string) string { return strings.Join(hoist.Names(program(rest), true), " ") }

// tellRename takes the number ahead of the program: what is wrong with it comes first.
func tellRename(rest string) string {
	digits, rest := word(rest)
	at := number(digits)
	old, rest := word(rest)
	other, rest := word(rest)
	n, err := alpha.Rename(program(rest), at, old, other)
	must(err)
	return shown(n)
}

func tellRun(rest string) string {
	a := many.One(rest)
	must(a.Err)
	return did(a.Result)
}

func tellText(rest string) string { return shown(program(rest)) }

func tellWhere(rest string) string {
	var uses []string
	for _, u := range where.Of(program(rest)) {
		uses = append(uses, lies(u))
	}
	return strings.Join(uses, ", ")
}
