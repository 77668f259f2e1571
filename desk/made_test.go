package desk_test

import (
	"fmt"
	"math/big"
	"math/rand"
	"regexp"
	"strings"
	"testing"

	"sloppyscope/alpha"
	"sloppyscope/api"
	"sloppyscope/desk"
	"sloppyscope/early"
	"sloppyscope/fold"
	"sloppyscope/hoist"
	"sloppyscope/run"
	"sloppyscope/tree"
	"sloppyscope/where"
)

// Made sessions, held against the words of 11.1, written a second time.

// asked is what 11.1 asks of a text.
func asked(text string) string {
	if len(text) > api.MaxText {
		return "error 4\n"
	}
	lines := strings.Split(text, "\n")
	if len(lines) > 1 && lines[len(lines)-1] == "" {
		lines = lines[:len(lines)-1]
	}
	var b strings.Builder
	for _, l := range lines {
		told, err := askedOfLine(l)
		if err != nil {
			told = fmt.Sprintf("error %d", api.Tell(err))
		}
		fmt.Fprintln(&b, told)
	}
	return b.String()
}

func askedOfLine(line string) (string, error) {
	if line == "" {
		return "ok", nil
	}
	words := append(strings.SplitN(line, " ", 2), "")
	switch first, rest := words[0], words[1]; first {
	case "help":
		if rest == "" {
			return helpText, nil
		}
	case "rename":
		return askedOfRename(append(strings.SplitN(rest, " ", 4), "", "", "", ""))
	case "text", "check", "names", "free", "fold", "where", "run":
		n, err := tree.Parse(rest)
		if err != nil {
			return "", err
		}
		return askedOfProgram(first, n)
	}
	return "", api.ErrForm
}

var decimal = regexp.MustCompile(`^(0|-?[1-9][0-9]*)$`)

func askedOfRename(words []string) (string, error) {
	at, _ := new(big.Int).SetString(words[0], 10)
	if !decimal.MatchString(words[0]) || !at.IsInt64() {
		return "", api.ErrForm
	}
	n, err := tree.Parse(words[3])
	if err != nil {
		return "", err
	}
	c, err := alpha.Rename(n, int(at.Int64()), words[1], words[2])
	return oneLine(c), err
}

// oneLine is a program's text, statement by statement.
func oneLine(n *api.Node) string {
	if n == nil {
		return ""
	}
	var l []string
	for _, k := range n.Kids {
		text := tree.Text(&api.Node{Kind: api.Program, Kids: []*api.Node{k}})
		l = append(l, text[:len(text)-1])
	}
	return strings.Join(l, " ")
}

func askedOfProgram(first string, n *api.Node) (string, error) {
	switch first {
	case "text":
		return oneLine(n), nil
	case "check":
		return "right", early.Check(n, false, false)
	case "names":
		return strings.Join(hoist.Names(n, true), " "), nil
	case "free":
		return strings.Join(hoist.Free(n), " "), nil
	case "fold":
		return oneLine(fold.Fold(n)), nil
	case "where":
		var l []string
		for _, u := range where.Of(n) {
			l = append(l, fmt.Sprint(u.At, " ", u.Scope, map[bool]string{false: " ?"}[u.Sure]))
		}
		return strings.Join(l, ", "), nil
	}
	r, err := run.Run(n)
	ends := []string{run.Done: "done", run.Thrown: "throws " + r.Value, run.Stopped: "stopped"}
	told := fmt.Sprint(strings.Join(r.Log, "; "), " | ", ends[r.Code], " | ", r.Steps)
	return strings.Join(strings.Split(told, "\n"), `\n`), err
}

// maker draws sessions.
type maker struct{ *rand.Rand }

func (m *maker) pick(l ...string) string { return l[m.Intn(len(l))] }

func (m *maker) name() string { return m.pick("a", "b", "f", "a", "b", "eval") }

func (m *maker) value(deep int) string {
	if deep == 0 {
		return m.pick("0", "1", "'s\\nt'", "'\\\\'", "{}", "null", "true", "(function f(a) {return b;})", m.name(), m.name(), m.name())
	}
	v := func() string { return m.value(deep - 1) }
	switch m.Intn(7) {
	case 0:
		return m.name() + " = " + v()
	case 1, 2:
		return "(" + v() + m.pick(" + ", " * ", " - ", " < ", " === ", " || ", " && ") + v() + ")"
	case 3:
		return "print(" + v() + ", " + v() + ")"
	case 4:
		return m.name() + "(" + v() + ")"
	case 5:
		return m.pick("typeof ", "delete ", "!") + v()
	}
	return v()
}

func (m *maker) statement(deep int) string {
	v := m.value(2)
	if deep == 0 {
		return "(" + v + ");"
	}
	s := func() string { return m.statement(deep - 1) }
	switch m.Intn(12) {
	case 0, 1:
		return m.pick("var ", "let ", "const ") + m.name() + " = " + v + ";"
	case 2:
		return "function " + m.name() + "(" + m.name() + ") {" + s() + s() + "}"
	case 3:
		return "with ({a: " + v + "}) " + s()
	case 4:
		return "try {" + s() + "} catch (" + m.name() + ") {" + s() + "}"
	case 5:
		return "while (" + m.pick("a", "f", "1", "1") + ") {" + s() + "}"
	case 6:
		return "{" + s() + s() + "}"
	case 7:
		return m.pick("throw "+v+";", "return "+v+";")
	case 8:
		return m.pick("1 = 2;", "while (1) ;", "{}", "'use strict';", "1000000001;", "'a'; 'b\\nc';")
	}
	return "print(" + v + ");"
}

func (m *maker) program() string {
	var b strings.Builder
	b.WriteString(m.pick("", "", "'use strict'; ", "let a = 1; "))
	for range m.Intn(5) {
		b.WriteString(m.statement(2) + m.pick(" ", ""))
	}
	return b.String()
}

func (m *maker) line() string {
	switch m.Intn(20) {
	case 0:
		return m.pick("", " ", "x", "x y", "help", "help ", "help x", "text", "run", "rename", "rename 0", "rename 1 a b")
	case 1, 2, 3, 4, 5, 6:
		at := m.pick("0", "0", "0", "1", "1", "2", "3", "4", "5", "6", "-1", "01", "+1", "", "x", "9223372036854775807", "9223372036854775808")
		return "rename " + at + " " + m.name() + " " + m.pick("z", "z", "z", "a", "eval", "1", "") + " " + m.pick("let a; ", "function f(a, b) {a; b;} ", "{let b;} ", "try {} catch (a) {a;} ") + m.pick("", "let b; ", m.program())
	}
	return m.pick("text", "check", "names", "free", "fold", "where", "run", "run") + " " + m.program()
}

// harm changes a byte of a text, or puts one in.
func (m *maker) harm(text string) string {
	if text == "" {
		return m.pick(" ", "\n")
	}
	i := m.Intn(len(text))
	return text[:i] + m.pick("", " ", "\n", ";", "'", "\\", "0", "-", "a", "\xff") + text[i+m.Intn(2):]
}

func (m *maker) session() string {
	var b strings.Builder
	for range m.Intn(6) {
		line := m.line()
		for m.Intn(4) == 0 {
			line = m.harm(line)
		}
		b.WriteString(line + "\n")
	}
	return b.String()[:max(0, b.Len()-m.Intn(2))]
}

func TestMade(t *testing.T) {
	m := &maker{rand.New(rand.NewSource(11))}
	seen := map[string]int{}
	for range 15000 {
		text := m.session()
		want := asked(text)
		if got := desk.Session(text); got != want {
			t.Fatalf("%q\n\tis answered %q\n\twant        %q", text, got, want)
		}
		for _, word := range []string{"error 1\n", "error 2\n", "error 3\n", "error 5\n", "error 6\n", "error 7\n", "error 9\n", "ok\n", "right\n", helpText, "| done |", "| throws ", "| stopped |", "-1 ?", "let z", `\n`} {
			seen[word] += strings.Count(want, word)
		}
	}
	for word, count := range seen {
		if count < 100 {
			t.Errorf("of the made lines %d have %q in what they are answered", count, word)
		}
	}
}

// FuzzSession looks for texts that are answered otherwise than the document asks.
func FuzzSession(f *testing.F) {
	m := &maker{rand.New(rand.NewSource(12))}
	for range 100 {
		f.Add(m.session())
	}
	f.Fuzz(func(t *testing.T, text string) {
		wantSession(t, text, asked(text))
	})
}
