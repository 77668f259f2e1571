package desk

import (
	"strconv"
	"strings"

	"sloppyscope/api"
	"sloppyscope/run"
	"sloppyscope/tree"
	"sloppyscope/where"
)

// shown is a program in one line.
func shown(n *api.Node) string {
	return strings.ReplaceAll(strings.TrimSuffix(tree.Text(n), "\n"), "\n", " ")
}

// lies is where a name does.
func lies(u where.Use) string {
	s := strconv.Itoa(u.At) + " " + strconv.Itoa(u.Scope)
	if !u.Sure {
		s += " ?"
	}
	return s
}

// did is what a program did, in one line: what it printed, or threw, may have line feeds.
func did(r run.Result) string {
	s := strings.Join(r.Log, "; ") + " | " + end(r)
	return strings.ReplaceAll(s, "\n", `\n`) + " | " + strconv.Itoa(r.Steps)
}

func end(r run.Result) string {
	switch r.Code {
	case run.Thrown:
		return "throws " + r.Value
	case run.Stopped:
		return "stopped"
	}
	return "done"
}
