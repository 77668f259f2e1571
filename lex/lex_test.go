package lex_test

import (
	"slices"
	"strings"
	"testing"

	"sloppyscope/api"
	"sloppyscope/lex"
	"sloppyscope/plain"
)

var allWords = strings.Fields("var let const function if else while with return throw try catch finally typeof delete true false null undefined")

const oneSigns = "(){}[];:,.=+-*<!"

// wantTokens: the text has these tokens, and then End at its length.
func wantTokens(t *testing.T, text string, want ...lex.Token) {
	t.Helper()
	want = append(slices.Clone(want), lex.Token{Kind: lex.End, At: len(text)})
	got, err := lex.Tokens(text)
	if err != nil || !slices.Equal(got, want) {
		t.Errorf("%.80q: got %v, %v; want %v", text, got, err, want)
	}
}

// wantFault: the text has an error at a byte (-1: at none), and no tokens.
func wantFault(t *testing.T, text string, want api.Errno, place int) {
	t.Helper()
	got, err := lex.Tokens(text)
	e, at := plain.Place(err)
	if e != want || at != place || len(got) != 0 {
		t.Errorf("%.80q: got %v, error %d at %d; want error %d at %d", text, got, e, at, want, place)
	}
	checkShape(t, text, err)
}

// checkShape: an error with a place is an *api.At itself, one without is an api.Errno itself (P3).
func checkShape(t *testing.T, text string, err error) {
	t.Helper()
	switch err.(type) {
	case *api.At, api.Errno:
	default:
		t.Errorf("%.80q: an error of type %T", text, err)
	}
}

func name(s string, at int) lex.Token    { return lex.Token{Kind: lex.Name, Text: s, At: at} }
func word(s string, at int) lex.Token    { return lex.Token{Kind: lex.Word, Text: s, At: at} }
func number(n int, at int) lex.Token     { return lex.Token{Kind: lex.Number, N: n, At: at} }
func stringOf(s string, a int) lex.Token { return lex.Token{Kind: lex.String, Text: s, At: a} }
func sign(s string, at int) lex.Token    { return lex.Token{Kind: lex.Sign, Text: s, At: at} }

// Promise 1.1.

func TestIsWord(t *testing.T) {
	if len(allWords) != 19 {
		t.Fatal("the document has 19 words")
	}
	for _, w := range allWords {
		if !lex.IsWord(w) {
			t.Errorf("%q is a word", w)
		}
		for _, s := range []string{w + "s", w[:len(w)-1], " " + w, w + " ", strings.ToUpper(w), w + w} {
			if lex.IsWord(s) {
				t.Errorf("%q is no word", s)
			}
		}
	}
	for _, s := range []string{"", " ", "a", "print", "eval", "arguments", "for", "do", "in", "new", "this", "use", "var\n", "var let"} {
		if lex.IsWord(s) {
			t.Errorf("%q is no word", s)
		}
	}
}

func TestIsName(t *testing.T) {
	for _, s := range []string{"a", "z", "_", "__", "a0", "_9", "x_1", "eval", "arguments", "print", "vars", "var_", "_var", "abcdefghijklmnopqrst", "a0123456789012345678"} {
		if !lex.IsName(s) {
			t.Errorf("%q is a name", s)
		}
	}
	for _, s := range []string{"", "0", "9a", "0_", "A", "aB", "a-b", "a b", " a", "a ", "a\n", "a.b", "a$", "\u00e9", "a\u00e9", "a\x00", "abcdefghijklmnopqrstu", strings.Repeat("a", 1<<20)} {
		if lex.IsName(s) {
			t.Errorf("%.30q is no name", s)
		}
	}
	for _, w := range allWords {
		if lex.IsName(w) {
			t.Errorf("%q is a word, no name", w)
		}
	}
}

func TestIsNameByLength(t *testing.T) {
	for n := range 30 {
		if got, want := lex.IsName(strings.Repeat("b", n)), 1 <= n && n <= 20; got != want {
			t.Errorf("%d bytes: %v", n, got)
		}
	}
}

func TestIsNameByByte(t *testing.T) {
	for i := range 256 {
		b := string([]byte{byte(i)})
		first := strings.Contains("abcdefghijklmnopqrstuvwxyz_", b)
		if lex.IsName(b) != first {
			t.Errorf("%q alone: %v", b, !first)
		}
		behind := first || strings.Contains("0123456789", b)
		if lex.IsName("x"+b) != behind || lex.IsName("x"+b+"y") != behind {
			t.Errorf("%q behind a letter: %v", b, !behind)
		}
	}
}

// Promise 1.2.

func TestKinds(t *testing.T) {
	got := []int{lex.Name, lex.Word, lex.Number, lex.String, lex.Sign, lex.End}
	if !slices.Equal(got, []int{1, 2, 3, 4, 5, 6}) {
		t.Errorf("kinds are %v", got)
	}
}

func TestBlanksAndLineFeeds(t *testing.T) {
	wantTokens(t, "")
	wantTokens(t, " ")
	wantTokens(t, "\n")
	wantTokens(t, " \n \n")
	wantTokens(t, "a 1", name("a", 0), number(1, 2))
	wantTokens(t, "\n a\n\n1 ", name("a", 2), number(1, 5))
	for _, s := range []string{"\t", "\r", "\v", "\f", "\x00", "\x85", "\xa0"} {
		wantFault(t, s, api.ErrForm, 0)
		wantFault(t, "a "+s+" b", api.ErrForm, 2)
	}
}

func TestNamesAndWords(t *testing.T) {
	for _, w := range allWords {
		wantTokens(t, w, word(w, 0))
		wantTokens(t, w+"x", name(w+"x", 0))
		wantTokens(t, w+"0", name(w+"0", 0))
		wantTokens(t, "_"+w, name("_"+w, 0))
	}
	wantTokens(t, "var a_1;let _", word("var", 0), name("a_1", 4), sign(";", 7), word("let", 8), name("_", 12))
	wantTokens(t, "eval(arguments)", name("eval", 0), sign("(", 4), name("arguments", 5), sign(")", 14))
	wantFault(t, "A", api.ErrForm, 0)
	wantFault(t, "aB", api.ErrForm, 1)
	wantFault(t, "a\u00e9", api.ErrForm, 1)
}

func TestLengthOfNames(t *testing.T) {
	longest := "abcdefghijklmnopqrst"
	wantTokens(t, longest, name(longest, 0))
	wantTokens(t, "a "+longest+";", name("a", 0), name(longest, 2), sign(";", 22))
	wantFault(t, longest+"u", api.ErrLimit, 0)
	wantFault(t, "a "+longest+"0;", api.ErrLimit, 2)
	wantFault(t, longest+"_#", api.ErrLimit, 0)
	wantFault(t, "undefinedundefinedundefined", api.ErrLimit, 0)
	wantFault(t, strings.Repeat("a", api.MaxSource), api.ErrLimit, 0)
}

func TestNumbers(t *testing.T) {
	wantTokens(t, "0", number(0, 0))
	wantTokens(t, "9", number(9, 0))
	wantTokens(t, "10 100", number(10, 0), number(100, 3))
	wantTokens(t, "123456789", number(123_456_789, 0))
	wantTokens(t, "12a", number(12, 0), name("a", 2))
	wantTokens(t, "0_0", number(0, 0), name("_0", 1))
	wantTokens(t, "0x1", number(0, 0), name("x1", 1))
	wantTokens(t, "-1", sign("-", 0), number(1, 1))
	wantTokens(t, "1.0", number(1, 0), sign(".", 1), number(0, 2))
}

func TestBoundsOfNumbers(t *testing.T) {
	wantTokens(t, "999999999", number(999_999_999, 0))
	wantTokens(t, "1000000000", number(api.MaxNumber, 0))
	wantFault(t, "1000000001", api.ErrRange, 0)
	wantFault(t, "9999999999", api.ErrRange, 0)
	wantFault(t, "10000000000", api.ErrForm, 0)
	wantFault(t, "a = 1000000001;", api.ErrRange, 4)
	wantFault(t, "a = 12345678901;", api.ErrForm, 4)
	wantFault(t, strings.Repeat("9", api.MaxSource), api.ErrForm, 0)
	wantFault(t, "00", api.ErrForm, 0)
	wantFault(t, "01", api.ErrForm, 0)
	wantFault(t, "a 0000000001", api.ErrForm, 2)
	wantFault(t, "00000000000", api.ErrForm, 0)
	wantFault(t, "01 #", api.ErrForm, 0)
}

func TestStrings(t *testing.T) {
	wantTokens(t, "''", stringOf("", 0))
	wantTokens(t, "'a b'", stringOf("a b", 0))
	wantTokens(t, "'a''b'", stringOf("a", 0), stringOf("b", 3))
	wantTokens(t, "a'b'c", name("a", 0), stringOf("b", 1), name("c", 4))
	wantTokens(t, `'\n\'\\'`, stringOf("\n'\\", 0))
	wantTokens(t, `'\\n'`, stringOf(`\n`, 0))
	wantTokens(t, `'\\'n`, stringOf(`\`, 0), name("n", 4))
	wantTokens(t, "'var # 01 \"'", stringOf("var # 01 \"", 0))
	wantTokens(t, "'\x00\t\r\xff\u00e9'", stringOf("\x00\t\r\xff\u00e9", 0))
}

func TestWhereStringsBreakOff(t *testing.T) {
	wantFault(t, "'", api.ErrForm, 1)
	wantFault(t, "'a", api.ErrForm, 2)
	wantFault(t, "a 'bc ", api.ErrForm, 6)
	wantFault(t, "'ab\n'", api.ErrForm, 3)
	wantFault(t, "''\n'\n'", api.ErrForm, 4)
	wantFault(t, `'\`, api.ErrForm, 2)
	wantFault(t, `'a\`, api.ErrForm, 3)
	wantFault(t, `'\a'`, api.ErrForm, 2)
	wantFault(t, `'ab\t'`, api.ErrForm, 4)
	wantFault(t, `'\N'`, api.ErrForm, 2)
	wantFault(t, "'\\\n'", api.ErrForm, 2)
	wantFault(t, "'\\ '", api.ErrForm, 2)
	wantFault(t, `'\'`, api.ErrForm, 3)
	wantFault(t, `'\\\'`, api.ErrForm, 5)
}

func TestWhatMayStandBehindABackslash(t *testing.T) {
	meant := map[byte]string{'n': "\n", '\'': "'", '\\': `\`}
	for i := range 256 {
		text := `'x\` + string([]byte{byte(i)}) + `'`
		if s, ok := meant[byte(i)]; ok {
			wantTokens(t, text, stringOf("x"+s, 0))
		} else {
			wantFault(t, text, api.ErrForm, 3)
		}
	}
}

func TestLengthOfStrings(t *testing.T) {
	long := strings.Repeat("s", api.MaxString)
	wantTokens(t, "'"+long+"'", stringOf(long, 0))
	wantFault(t, "'"+long+"s'", api.ErrLimit, 0)
	wantFault(t, "a '"+long+"s';", api.ErrLimit, 2)
	// What counts is what the string says, not how it is written.
	feeds := strings.Repeat("\n", api.MaxString)
	wantTokens(t, "'"+strings.Repeat(`\n`, api.MaxString)+"'", stringOf(feeds, 0))
	wantFault(t, "'"+strings.Repeat(`\n`, api.MaxString)+"s'", api.ErrLimit, 0)
	wantFault(t, "'"+strings.Repeat(`\\`, api.MaxString+1)+"'", api.ErrLimit, 0)
	// What is wrong within it is told ahead of its length.
	wantFault(t, "'"+long+"s", api.ErrForm, api.MaxString+2)
	wantFault(t, "'"+long+"s\n'", api.ErrForm, api.MaxString+2)
	wantFault(t, "'"+long+`s\a'`, api.ErrForm, api.MaxString+3)
}

func TestSigns(t *testing.T) {
	for _, s := range []string{"===", "&&", "||"} {
		wantTokens(t, s, sign(s, 0))
		wantTokens(t, s+s, sign(s, 0), sign(s, len(s)))
	}
	for i := range len(oneSigns) {
		s := oneSigns[i : i+1]
		wantTokens(t, s, sign(s, 0))
		wantTokens(t, "a"+s+" b", name("a", 0), sign(s, 1), name("b", 3))
	}
	wantTokens(t, "==", sign("=", 0), sign("=", 1))
	wantTokens(t, "====", sign("===", 0), sign("=", 3))
	wantTokens(t, "= ==", sign("=", 0), sign("=", 2), sign("=", 3))
	wantTokens(t, "!==", sign("!", 0), sign("=", 1), sign("=", 2))
	wantTokens(t, "[a]", sign("[", 0), name("a", 1), sign("]", 2))
	wantFault(t, "&", api.ErrForm, 0)
	wantFault(t, "a & & b", api.ErrForm, 2)
	wantFault(t, "&&&", api.ErrForm, 2)
	wantFault(t, "|||", api.ErrForm, 2)
	wantFault(t, "&|", api.ErrForm, 0)
}

func TestAllElse(t *testing.T) {
	known := "abcdefghijklmnopqrstuvwxyz_0123456789 \n" + oneSigns
	for i := range 256 {
		b := string([]byte{byte(i)})
		switch {
		case b == "'":
			wantFault(t, "a "+b, api.ErrForm, 3)
		case !strings.Contains(known, b):
			wantFault(t, b, api.ErrForm, 0)
			wantFault(t, "a "+b, api.ErrForm, 2)
			wantFault(t, "''"+b+"''", api.ErrForm, 2)
		default:
			if l, err := lex.Tokens(b); err != nil || len(l) > 2 {
				t.Errorf("%q: %v, %v", b, l, err)
			}
		}
	}
}

func TestFirstFaultIsTold(t *testing.T) {
	wantFault(t, "# 01", api.ErrForm, 0)
	wantFault(t, "01 #", api.ErrForm, 0)
	wantFault(t, "1000000001 01", api.ErrRange, 0)
	wantFault(t, "a; 1000000001 'b", api.ErrRange, 3)
	wantFault(t, "'b 1000000001", api.ErrForm, 13)
	wantFault(t, "abcdefghijklmnopqrstu 'b", api.ErrLimit, 0)
}

func TestLengthOfTexts(t *testing.T) {
	blanks := strings.Repeat(" ", api.MaxSource)
	wantTokens(t, blanks)
	wantFault(t, blanks+" ", api.ErrLimit, -1)
	// The length is told ahead of all that is within.
	wantFault(t, "#"+blanks, api.ErrLimit, -1)
	wantFault(t, blanks+"#", api.ErrLimit, -1)
	wantFault(t, blanks[1:]+"#", api.ErrForm, api.MaxSource-1)
	wantFault(t, strings.Repeat("\xff", 1<<20), api.ErrLimit, -1)
	full, err := lex.Tokens(strings.Repeat(";", api.MaxSource))
	if err != nil || len(full) != api.MaxSource+1 {
		t.Errorf("%d tokens, %v", len(full), err)
	}
}

// P4: an answer is the caller's, and the next one does not hang on it.
func TestAnswersAreTheCallers(t *testing.T) {
	text := "var a = 'b\\n' + 12;"
	one, err := lex.Tokens(text)
	if err != nil {
		t.Fatal(err)
	}
	kept := slices.Clone(one)
	clear(one[:cap(one)])
	two, err := lex.Tokens(text)
	if err != nil || !slices.Equal(two, kept) {
		t.Errorf("%v, %v; before: %v", two, err, kept)
	}
	if _, err := lex.Tokens("a #"); err != nil {
		err.(*api.At).Place = 7
	}
	wantFault(t, "a #", api.ErrForm, 2)
}
