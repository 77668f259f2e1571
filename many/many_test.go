package many_test

import (
	"reflect"
	"strings"
	"testing"

	"sloppyscope/api"
	"sloppyscope/many"
	"sloppyscope/plain"
	"sloppyscope/run"
)

// Promise 10.1: One; and what the tests of this package share.

// forever is a program that is stopped.
const forever = "while (true) ;"

// same says whether two answers are the same, places of errors, too; an empty list may be nil or not.
func same(a, b many.Answer) bool {
	e, at := plain.Place(a.Err)
	f, to := plain.Place(b.Err)
	return e == f && at == to && (a.Err == nil) == (b.Err == nil) &&
		a.Code == b.Code && a.Value == b.Value && a.Steps == b.Steps &&
		len(a.Log) == len(b.Log) && (len(a.Log) == 0 || reflect.DeepEqual(a.Log, b.Log)) &&
		len(a.Seen) == len(b.Seen) && (len(a.Seen) == 0 || reflect.DeepEqual(a.Seen, b.Seen))
}

func wantSame(t *testing.T, what string, got, want many.Answer) {
	t.Helper()
	if !same(got, want) {
		t.Errorf("%.300s:\n\tanswered %+v\n\twant     %+v", what, got, want)
	}
}

// wantError wants an answer that is an error, at a place (-1: it has none), and nothing else.
func wantError(t *testing.T, text string, got many.Answer, err api.Errno, at int) {
	t.Helper()
	if e, place := plain.Place(got.Err); e != err || place != at {
		t.Errorf("%.300q: error %d at %d, want %d at %d", text, e, place, err, at)
	}
	if !same(many.Answer{Result: got.Result}, many.Answer{}) {
		t.Errorf("%.300q: beside an error %+v is told", text, got.Result)
	}
}

func TestOne(t *testing.T) {
	cases := []struct {
		text string
		want run.Result
	}{
		{"", run.Result{Code: run.Done}},
		{" \n ", run.Result{Code: run.Done}},
		{";", run.Result{Code: run.Done, Steps: 1}},
		{"var a;", run.Result{Code: run.Done, Steps: 1}},
		{"a = 1;", run.Result{Code: run.Done, Steps: 3}},
		{"print(1, 'a\\nb'); print();", run.Result{
			Log: []string{"1 a\nb", ""}, Code: run.Done, Steps: 8,
			Seen: [][2]int{{3, run.Global}, {8, run.Global}}}},
		{"let a = 1; print(a); throw a;", run.Result{
			Log: []string{"1"}, Code: run.Thrown, Value: "1", Steps: 8,
			Seen: [][2]int{{5, run.Global}, {6, 0}, {8, 0}}}},
		{"throw 'a\\nb';", run.Result{Code: run.Thrown, Value: "a\nb", Steps: 2}},
		{"throw '';", run.Result{Code: run.Thrown, Steps: 2}},
		{"print(a);", run.Result{
			Code: run.Thrown, Value: "reference", Steps: 4,
			Seen: [][2]int{{3, run.Global}}}},
		{forever, run.Result{Code: run.Stopped, Steps: api.MaxSteps + 1}},
		{"print('a'); " + forever + " print('b');", run.Result{
			Log: []string{"a"}, Code: run.Stopped, Steps: api.MaxSteps + 1,
			Seen: [][2]int{{3, run.Global}}}},
	}
	for _, c := range cases {
		wantSame(t, c.text, many.One(c.text), many.Answer{Result: c.want})
	}
}

func TestOneWrong(t *testing.T) {
	cases := []struct {
		text string
		err  api.Errno
		at   int
	}{
		{"$", api.ErrForm, 0},
		{"a; 'b", api.ErrForm, 5},
		{"print(1)", api.ErrForm, 8},
		{"print(1); }", api.ErrForm, 10},
		{"print(1); 2 = 3;", api.ErrArg, 10},
		{"a; 1000000001;", api.ErrRange, 3},
		{"\x00", api.ErrForm, 0},
		{"\xff;", api.ErrForm, 0},
		{strings.Repeat("!", 50), api.ErrLimit, api.MaxDeep - 1},
		{strings.Repeat(" ", api.MaxSource+1), api.ErrLimit, -1},
		{strings.Repeat(";", api.MaxNodes), api.ErrLimit, -1},
		{"print(1); return;", api.ErrState, -1},
		{"let a; let a;", api.ErrTwice, -1},
		{"'use strict'; var eval;", api.ErrName, -1},
		{"'use strict'; delete a;", api.ErrArg, -1},
		{"return; let a; let a;", api.ErrTwice, -1},
		{"return; 2 = 3;", api.ErrArg, 8},
	}
	for _, c := range cases {
		wantError(t, c.text, many.One(c.text), c.err, c.at)
	}
}

func TestOneAtItsBounds(t *testing.T) {
	for _, text := range []string{strings.Repeat(" ", api.MaxSource), strings.Repeat(";", api.MaxNodes-1)} {
		if a := many.One(text); a.Err != nil || a.Code != run.Done {
			t.Errorf("%.20q: %+v", text, a)
		}
	}
}

// What a text does, or is wrong with it, is the same each time, and each time new.
func TestOneAgain(t *testing.T) {
	const text = "let a = 1; print(a); print(a);"
	first := many.One(text)
	first.Log[0], first.Seen[0] = "x", [2]int{9, 9}
	again := many.One(text)
	if again.Log[0] != "1" || again.Seen[0] != [2]int{5, run.Global} {
		t.Errorf("%s: an answer was kept: %+v", text, again)
	}
	wrong := many.One("a")
	wrong.Err.(*api.At).Place = 9
	wantError(t, "a", many.One("a"), api.ErrForm, 1)
}
