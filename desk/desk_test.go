package desk_test

import (
	"strings"
	"testing"

	"sloppyscope/api"
	"sloppyscope/desk"
)

// Promise 11.1: a text and its lines, their first words; and what the tests of this package share.

const helpText = "check fold free help names rename run text where"

// line is one of a text, and what it is answered.
type line struct{ line, want string }

// wantSession wants a text to be answered that way.
func wantSession(t *testing.T, text, want string) {
	t.Helper()
	if got := desk.Session(text); got != want {
		t.Errorf("%.300q\n\tis answered %.300q\n\twant        %.300q", text, got, want)
	}
}

// wantLines wants each line to be answered that way, whatever stands around it.
func wantLines(t *testing.T, lines []line) {
	t.Helper()
	for _, l := range lines {
		wantSession(t, l.line+"\n", l.want+"\n")
		wantSession(t, l.line+"\n\n", l.want+"\nok\n")
		wantSession(t, "\n"+l.line+"\nhelp", "ok\n"+l.want+"\n"+helpText+"\n")
		if l.line != "" {
			wantSession(t, l.line, l.want+"\n")
		}
	}
	var text, want strings.Builder
	for _, l := range lines {
		if text.Len()+len(l.line) < api.MaxText {
			text.WriteString(l.line + "\n")
			want.WriteString(l.want + "\n")
		}
	}
	wantSession(t, text.String(), want.String())
}

// wantRefused wants each line to be answered by an error.
func wantRefused(t *testing.T, want string, lines ...string) {
	t.Helper()
	for _, l := range lines {
		wantLines(t, []line{{l, want}})
	}
}

func TestEmpty(t *testing.T) {
	wantSession(t, "", "ok\n")
	wantSession(t, "\n", "ok\n")
	wantSession(t, "\n\n", "ok\nok\n")
	wantSession(t, "\n\n\n", "ok\nok\nok\n")
}

func TestLineFeeds(t *testing.T) {
	const told = helpText + "\n"
	wantSession(t, "help", told)
	wantSession(t, "help\n", told)
	wantSession(t, "help\n\n", told+"ok\n")
	wantSession(t, "help\n\n\n", told+"ok\nok\n")
	wantSession(t, "\nhelp", "ok\n"+told)
	wantSession(t, "\nhelp\n", "ok\n"+told)
	wantSession(t, "help\nhelp", told+told)
	wantSession(t, "help\nhelp\n", told+told)
	wantSession(t, "help\n\nhelp\n", told+"ok\n"+told)
	wantSession(t, "x\nhelp\nx\n", "error 3\n"+told+"error 3\n")
	wantSession(t, "text let a;\ntext a;\ntext let a;\nrun print(a);\n", "let a;\na;\nlet a;\n | throws reference | 4\n")
}

func TestMaxText(t *testing.T) {
	lines := func(line, want string, count int) (string, string) {
		return strings.Repeat(line+"\n", count), strings.Repeat(want+"\n", count)
	}
	text, want := lines("", "ok", api.MaxText)
	wantSession(t, text, want)
	wantSession(t, text+"\n", "error 4\n")
	text, want = lines("help", helpText, api.MaxText/5)
	wantSession(t, text, want)
	wantSession(t, text+"\n", "error 4\n")
	wantSession(t, text+"x", "error 4\n")
	wantSession(t, text[:len(text)-1]+" ", want)
	wantSession(t, text[:len(text)-1]+" \n", "error 4\n")
	text, want = lines("run print(1);  ", "1 | done | 4", api.MaxText/16)
	wantSession(t, text, want)
	wantSession(t, strings.Repeat("x", api.MaxText), "error 3\n")
	wantSession(t, strings.Repeat("x", api.MaxText+1), "error 4\n")
	wantSession(t, strings.Repeat("\n", 10*api.MaxText), "error 4\n")
	wantSession(t, strings.Repeat(" ", api.MaxText), "error 3\n")
}

// The bytes of a text are counted, not its letters.
func TestMaxTextInBytes(t *testing.T) {
	wantSession(t, strings.Repeat("\u00e9", api.MaxText/2), "error 3\n")
	wantSession(t, strings.Repeat("\u00e9", api.MaxText/2+1), "error 4\n")
}

func TestFirstWord(t *testing.T) {
	wantLines(t, []line{{"text", ""}, {"text ", ""}, {"text  ", ""}, {"text a;", "a;"}, {"text  a;", "a;"}, {"text a; ", "a;"}})
	wantRefused(t, "error 3",
		"x", "x ", "x a;", "tex", "tex a;", "texts", "texts a;", "text;", "text;a;", "texta;", "text\ta;", "text\r", "text\ra;",
		"Text a;", "TEXT a;", "ok", "error", "error 3", "right", "done", "PROGRAM", "program a;",
		" ", "  ", " text a;", "  text a;", " help", "\ttext a;", "\t", "\r", "\x00", "\x00 a;", "\xff", "\u00e9 a;", "0", "-1", ";", "a;", "(", "one a;", "help;",
		"check fold free help names rename run text where", "check\tfold")
	// a first word that is none is told ahead of what is wrong with what stands behind it
	wantRefused(t, "error 3", "x 1 = 2;", " 1 = 2;", "x "+strings.Repeat(" ", api.MaxSource+1))
}

func TestHelp(t *testing.T) {
	wantLines(t, []line{{"help", helpText}, {"help ", helpText}})
	wantRefused(t, "error 3", "help x", "help  ", "help help", "help a;", "help ;", "help text", "help 1 = 2;", "help \t", "help \r", "help\r")
}

// What is wrong with a program, whichever line it stands in, and wherever.
func TestProgramWrong(t *testing.T) {
	wrong := []line{
		{"a", "error 3"},
		{"(", "error 3"},
		{"a; b", "error 3"},
		{"'a", "error 3"},
		{"'a\\b';", "error 3"},
		{"a.;", "error 3"},
		{"$;", "error 3"},
		{"\ta;", "error 3"},
		{"a;\r", "error 3"},
		{"\xff", "error 3"},
		{"1 = 2;", "error 1"},
		{"a; b() = c;", "error 1"},
		{"1000000001;", "error 2"},
		{"00;", "error 3"},
		{"aaaaabbbbbcccccddddde;", "error 4"},
		{"f(a, a, a, a, a, a, a, a, a);", "error 4"},
		{strings.Repeat("!", api.MaxDeep) + "a;", "error 4"},
		{strings.Repeat(" ", api.MaxSource+1), "error 4"},
		{strings.Repeat(";", api.MaxNodes), "error 4"},
		{"'" + strings.Repeat("a", api.MaxString+1) + "';", "error 4"},
	}
	for _, first := range []string{"text", "check", "names", "free", "fold", "where", "run", "rename 0 a b", "rename 0 eval eval", "rename -1 1 1"} {
		for _, l := range wrong {
			wantRefused(t, l.want, first+" "+l.line)
		}
	}
}

func TestProgramAtItsBounds(t *testing.T) {
	long := strings.Repeat(" ", api.MaxSource-2) + "a;"
	wantLines(t, []line{
		{"text " + long, "a;"},
		{"text " + strings.Repeat("!", api.MaxDeep-2) + "a;", strings.Repeat("!", api.MaxDeep-2) + "a;"},
		{"free " + long, "a"},
		{"text " + strings.Repeat(";", api.MaxNodes-1), strings.TrimSuffix(strings.Repeat("; ", api.MaxNodes-1), " ")},
		{"run " + strings.Repeat(";", api.MaxNodes-1), " | done | 1499"},
	})
	wantRefused(t, "error 4", "text  "+long, "free  "+long, "check "+long+" ", "text "+strings.Repeat("!", api.MaxDeep-1)+"a;", "text "+strings.Repeat(";", api.MaxNodes))
}

// P4: what a line is answered hangs on that line alone.
func TestAgain(t *testing.T) {
	const text = "run a = 1; print(a); let b;\nrun print(typeof a, typeof b);\nrun b = 2;\nx\nrename 0 b c let b;\n"
	const want = "1 | done | 8\nundefined undefined | done | 5\n | done | 3\nerror 3\nlet c;\n"
	for range 3 {
		wantSession(t, text, want)
	}
}
