package tree_test

import (
	"math/rand"
	"slices"
	"strings"
	"testing"

	"sloppyscope/api"
	"sloppyscope/plain"
	"sloppyscope/tree"
)

// The forms of promises 2.1 and 2.2, a line for each part, its forms with / between.
const forms = `
Program = Some
Some = / S Some
S = var a ; / var a = V ; / let a ; / let a = V ; / const a = V ; / Func / Block / if ( V ) S / if ( V ) S else S / while ( V ) S / with ( V ) S / return ; / return V ; / throw V ; / try Block Catch / try Block Finally / try Block Catch Finally / ; / Expr ;
Func = function a Rest
Rest = ( ) Block / ( Names ) Block
Names = a / a , Names
Block = { Some }
Catch = catch ( a ) Block
Finally = finally Block
V = Or / Or = V
Or = And / Or || And
And = Same / And && Same
Same = Less / Same === Less
Less = Sum / Less < Sum
Sum = Mul / Sum + Mul / Sum - Mul
Mul = Not / Mul * Not
Not = Asked / ! Not / typeof Not / delete Not
Asked = Alone / Asked . a / Asked ( ) / Asked ( List )
List = V / V , List
Alone = Begin / Func / function Rest / Object
Begin = a / 1 / 's' / true / false / null / undefined / ( V )
Object = { } / { Props }
Props = a : V / a : V , Props
Expr = XV
XV = XOr / XOr = V
XOr = XAnd / XOr || And
XAnd = XSame / XAnd && Same
XSame = XLess / XSame === Less
XLess = XSum / XLess < Sum
XSum = XMul / XSum + Mul / XSum - Mul
XMul = XNot / XMul * Not
XNot = XAsked / ! Not / typeof Not / delete Not
XAsked = Begin / XAsked . a / XAsked ( ) / XAsked ( List )`

// state is a form that has been gone through up to a place, and where it began.
type state struct{ part, form, place, from int }

// grammar tells, token by token, whether what has been read so far begins some program.
type grammar struct {
	parts []string
	forms [][][]string
}

func readForms() *grammar {
	g := &grammar{}
	for _, line := range strings.Split(strings.TrimSpace(forms), "\n") {
		part, rest, _ := strings.Cut(line, " =")
		g.parts = append(g.parts, part)
		var l [][]string
		for _, f := range strings.Split(rest+" ", " / ") {
			l = append(l, strings.Fields(f))
		}
		g.forms = append(g.forms, l)
	}
	return g
}

// next is what a state waits for: empty, if it is at its end.
func (g *grammar) next(s state) string {
	if f := g.forms[s.part][s.form]; s.place < len(f) {
		return f[s.place]
	}
	return ""
}

// fill adds to the last list of states all that follows without a token.
func (g *grammar) fill(lists [][]state) [][]state {
	at := len(lists) - 1
	add := func(s state) {
		if !slices.Contains(lists[at], s) {
			lists[at] = append(lists[at], s)
		}
	}
	// Parts may be of nothing, so what is at its end is looked for until nothing is new.
	for many := -1; many != len(lists[at]); {
		many = len(lists[at])
		for i := 0; i < len(lists[at]); i++ {
			s := lists[at][i]
			want := g.next(s)
			if p := slices.Index(g.parts, want); p >= 0 {
				for f := range g.forms[p] {
					add(state{p, f, 0, at})
				}
			} else if want == "" {
				for _, o := range lists[s.from] {
					if g.next(o) == g.parts[s.part] {
						add(state{o.part, o.form, o.place + 1, o.from})
					}
				}
			}
		}
	}
	return lists
}

func (g *grammar) start() [][]state { return g.fill([][]state{{{}}}) }

// behind is what is known behind one more token; false: it can't stand there.
func (g *grammar) behind(lists [][]state, token string) ([][]state, bool) {
	var l []state
	for _, s := range lists[len(lists)-1] {
		if g.next(s) == token {
			l = append(l, state{s.part, s.form, s.place + 1, s.from})
		}
	}
	if l == nil {
		return nil, false
	}
	return g.fill(append(slices.Clone(lists), l)), true
}

// whole says whether all that has been read is a program.
func (g *grammar) whole(lists [][]state) bool {
	return slices.ContainsFunc(lists[len(lists)-1], func(s state) bool { return s.part == 0 && g.next(s) == "" })
}

var allTokens = strings.Fields("a 1 's' ( ) { } [ ; : , . = === + - * < ! && || var let const function if else while with return throw try catch finally typeof delete true false null undefined")

// goOn holds Parse against the forms for a text and one more token, and tells what is known behind that; nil: nothing stands behind it.
func (g *grammar) goOn(t *testing.T, lists [][]state, text, token string) [][]state {
	t.Helper()
	more, can := g.behind(lists, token)
	at := len(text)
	text += token
	_, err := tree.Parse(text)
	e, place := plain.Place(err)
	switch {
	case !can:
		if e != api.ErrForm || place != at {
			t.Fatalf("%q: error %d at %d, %q can't stand at %d", text, e, place, token, at)
		}
	case e == api.ErrArg && token == "=" || e == api.ErrLimit:
		return nil
	case g.whole(more):
		if err != nil {
			t.Fatalf("%q is a program: error %d at %d", text, e, place)
		}
	case e != api.ErrForm || place != len(text):
		t.Fatalf("%q is the beginning of a program: error %d at %d", text, e, place)
	}
	if !can {
		return nil
	}
	return more
}

func TestFormsOfShortPrograms(t *testing.T) {
	g := readForms()
	var grow func(lists [][]state, text string, left int)
	grow = func(lists [][]state, text string, left int) {
		for _, token := range allTokens {
			if more := g.goOn(t, lists, text, token); more != nil && left > 1 {
				grow(more, text+token+" ", left-1)
			}
		}
	}
	grow(g.start(), "", 3)
}

func TestFormsOfLongPrograms(t *testing.T) {
	g := readForms()
	r := rand.New(rand.NewSource(2))
	programs := 0
	for range 150 {
		lists, text := g.start(), ""
		for range 30 {
			var next [][]state
			chosen := ""
			for _, i := range r.Perm(len(allTokens)) {
				if more := g.goOn(t, lists, text, allTokens[i]); more != nil && next == nil {
					next, chosen = more, allTokens[i]
				}
			}
			if next == nil {
				break
			}
			lists, text = next, text+chosen+" "
			if g.whole(lists) {
				programs++
			}
		}
	}
	if programs == 0 {
		t.Error("no program was made")
	}
}
