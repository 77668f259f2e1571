package lex_test

import (
	"regexp"
	"slices"
	"strconv"
	"strings"
	"testing"

	"sloppyscope/api"
	"sloppyscope/lex"
	"sloppyscope/plain"
)

var (
	gapForm    = regexp.MustCompile(`^[ \n]*`)
	nameForm   = regexp.MustCompile(`^[a-z_][a-z0-9_]*`)
	numberForm = regexp.MustCompile(`^[0-9]+`)
	insideForm = regexp.MustCompile(`^'((?:[^'\\\n]|\\[n'\\])*)`)
	signForm   = regexp.MustCompile(`^(?:===|&&|\|\||[(){}\[\];:,.=+\-*<!])`)
	unescape   = strings.NewReplacer(`\n`, "\n", `\'`, "'", `\\`, `\`)
)

// expected is what promise 1.2 asks of a short text of ASCII, told by forms.
func expected(text string) ([]lex.Token, api.Errno, int) {
	var l []lex.Token
	for at := 0; ; {
		at += len(gapForm.FindString(text[at:]))
		rest := text[at:]
		if rest == "" {
			return append(l, lex.Token{Kind: lex.End, At: at}), api.OK, -1
		}
		if s := nameForm.FindString(rest); s != "" {
			kind := lex.Name
			if slices.Contains(allWords, s) {
				kind = lex.Word
			}
			l = append(l, lex.Token{Kind: kind, Text: s, At: at})
			at += len(s)
		} else if s := numberForm.FindString(rest); s != "" {
			n, _ := strconv.Atoi(s)
			if strconv.Itoa(n) != s {
				return nil, api.ErrForm, at
			}
			l = append(l, lex.Token{Kind: lex.Number, N: n, At: at})
			at += len(s)
		} else if m := insideForm.FindStringSubmatch(rest); m != nil {
			end := at + len(m[0])
			if strings.HasPrefix(text[end:], `\`) {
				return nil, api.ErrForm, end + 1
			} else if !strings.HasPrefix(text[end:], "'") {
				return nil, api.ErrForm, end
			}
			l = append(l, lex.Token{Kind: lex.String, Text: unescape.Replace(m[1]), At: at})
			at = end + 1
		} else if s := signForm.FindString(rest); s != "" {
			l = append(l, lex.Token{Kind: lex.Sign, Text: s, At: at})
			at += len(s)
		} else {
			return nil, api.ErrForm, at
		}
	}
}

// eachText goes through all texts of at most that many of the pieces.
func eachText(pieces []string, most int, look func(text string)) {
	look("")
	var grow func(text string, left int)
	grow = func(text string, left int) {
		if left == 0 {
			return
		}
		for _, p := range pieces {
			look(text + p)
			grow(text+p, left-1)
		}
	}
	grow("", most)
}

func TestAllShortTexts(t *testing.T) {
	pieces := []string{"a", "n", "_", "0", "1", "'", `\`, "\n", " ", "=", "&", "|", "(", "#", "if", "==="}
	eachText(pieces, 4, func(text string) {
		got, err := lex.Tokens(text)
		e, place := plain.Place(err)
		want, wantErr, wantPlace := expected(text)
		if !slices.Equal(got, want) || e != wantErr || place != wantPlace {
			t.Fatalf("%q: got %v, error %d at %d; want %v, error %d at %d", text, got, e, place, want, wantErr, wantPlace)
		}
	})
}

// written is how a token stands in a text.
func written(k lex.Token) string {
	switch k.Kind {
	case lex.Number:
		return strconv.Itoa(k.N)
	case lex.String:
		return "'" + strings.NewReplacer("\n", `\n`, "'", `\'`, `\`, `\\`).Replace(k.Text) + "'"
	}
	return k.Text
}

// Tokens cover a text: they stand in it, in order, with nothing but blanks and line feeds between.
func TestTokensCoverAText(t *testing.T) {
	text := strings.Repeat("function f(a,b){'use strict';let c_1=a*(b-10)\n ; if(c_1===0&&!a||b<2)return'\\\\ \\'\\n';else{o.p=[];}}\n", 20)
	l, err := lex.Tokens(text)
	if err != nil {
		t.Fatal(err)
	}
	behind := 0
	for _, k := range l {
		if strings.Trim(text[behind:k.At], " \n") != "" {
			t.Fatalf("between tokens stands %q", text[behind:k.At])
		}
		s := written(k)
		if !strings.HasPrefix(text[k.At:], s) {
			t.Fatalf("%v does not stand at its place", k)
		}
		behind = k.At + len(s)
	}
	if behind != len(text) || l[len(l)-1].Kind != lex.End {
		t.Errorf("the last token is %v", l[len(l)-1])
	}
}

// P1: whatever it is given, a call ends, and what is no error has End last.
func FuzzTokens(f *testing.F) {
	f.Add("var a = 'b\\n' + 12;")
	f.Add("'\\")
	f.Add("\xff\x00")
	f.Fuzz(func(t *testing.T, text string) {
		l, err := lex.Tokens(text)
		if err != nil {
			if len(l) != 0 || api.Tell(err) <= api.OK {
				t.Errorf("%v, %v", l, err)
			}
			return
		}
		if last := l[len(l)-1]; last != (lex.Token{Kind: lex.End, At: len(text)}) {
			t.Errorf("the last token is %v", last)
		}
		for _, k := range l {
			if k.Kind == lex.String {
				continue
			}
			if (k.Kind == lex.Name) != lex.IsName(k.Text) || (k.Kind == lex.Word) != lex.IsWord(k.Text) {
				t.Errorf("%v is told otherwise by IsName or IsWord", k)
			}
		}
	})
}
