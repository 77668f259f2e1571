package many_test

import (
	"math"
	"runtime"
	"slices"
	"strconv"
	"strings"
	"sync"
	"testing"
	"time"

	"sloppyscope/api"
	"sloppyscope/many"
	"sloppyscope/plain"
	"sloppyscope/run"
)

// Promise 10.1: All.

// ones are the answers to texts, each asked alone.
func ones(texts []string) []many.Answer {
	var l []many.Answer
	for _, text := range texts {
		l = append(l, many.One(text))
	}
	return l
}

// wantAll wants One of each text, in order.
func wantAll(t *testing.T, texts []string, workers int, want []many.Answer) {
	t.Helper()
	got, err := many.All(texts, workers)
	if err != nil || len(got) != len(texts) {
		t.Fatalf("%d texts, %d workers: %d answers, error %d", len(texts), workers, len(got), api.Tell(err))
	}
	for i, a := range got {
		wantSame(t, strconv.Itoa(workers)+" workers, text "+strconv.Itoa(i)+": "+texts[i], a, want[i])
	}
}

// wantLimit wants texts and workers to be too many, or too few, and nothing to be told beside that.
func wantLimit(t *testing.T, texts []string, workers int) {
	t.Helper()
	got, err := many.All(texts, workers)
	if e, at := plain.Place(err); e != api.ErrLimit || at != -1 || len(got) != 0 {
		t.Errorf("%d texts, %d workers: %d answers, error %d at %d, want %d", len(texts), workers, len(got), e, at, api.ErrLimit)
	}
}

// printing are programs that each print their own number.
func printing(count int) (texts []string) {
	for i := range count {
		texts = append(texts, "print("+strconv.Itoa(i)+");")
	}
	return texts
}

// ofEachKind are texts that end in each way that there is, the slowest ones first.
var ofEachKind = []string{
	forever,
	"print('a'); " + forever,
	"throw 'a\\nb';",
	"",
	"print(1);",
	"print(1)",
	"2 = 3;",
	"return;",
	"let a; let a;",
	"print('b'); throw {};",
	strings.Repeat(" ", api.MaxSource+1),
	"let a = 1; print(a, 'c'); print(eval('a + 1;'));",
	"$",
	"print(1);",
}

func TestAllOfEachKind(t *testing.T) {
	want := ones(ofEachKind)
	for workers := 1; workers <= 16; workers++ {
		wantAll(t, ofEachKind, workers, want)
	}
}

func TestAllNoText(t *testing.T) {
	for workers := 1; workers <= 16; workers++ {
		for _, texts := range [][]string{nil, {}} {
			if got, err := many.All(texts, workers); err != nil || len(got) != 0 {
				t.Errorf("%d workers: %d answers to no text, error %v", workers, len(got), err)
			}
		}
	}
}

func TestAllOfOneText(t *testing.T) {
	for _, text := range ofEachKind {
		for _, workers := range []int{1, 2, 16} {
			wantAll(t, []string{text}, workers, ones([]string{text}))
		}
	}
}

func TestAllTexts(t *testing.T) {
	for _, workers := range []int{1, 2, 15, 16} {
		for _, count := range []int{1, 2, 15, 16, 17, 49, 50} {
			texts := printing(count)
			wantAll(t, texts, workers, ones(texts))
		}
		for _, count := range []int{51, 52, 100, 1000} {
			wantLimit(t, printing(count), workers)
		}
	}
}

func TestAllWorkers(t *testing.T) {
	for _, count := range []int{0, 1, 2, 50, 51} {
		for _, workers := range []int{0, 17, 18, 100, -1, -16, math.MaxInt, math.MinInt, math.MaxInt32 + 1, 1 << 32, 1<<32 + 1} {
			wantLimit(t, printing(count), workers)
		}
	}
}

// What is wrong with one text is that one's: the others are answered, and All has no error.
func TestAllWrongTexts(t *testing.T) {
	texts := slices.Repeat([]string{"a"}, 50)
	texts[25] = "print('a');"
	got, err := many.All(texts, 3)
	if err != nil || len(got) != 50 {
		t.Fatalf("%d answers, error %v", len(got), err)
	}
	for i, a := range got {
		if i == 25 {
			wantSame(t, texts[i], a, many.Answer{Result: run.Result{Log: []string{"a"}, Code: run.Done, Steps: 4, Seen: [][2]int{{3, run.Global}}}})
			continue
		}
		wantError(t, texts[i], a, api.ErrForm, 1)
	}
}

// Each place has its own answer, though those behind a slow text are done long ahead of it.
func TestAllInOrder(t *testing.T) {
	for slow := range 50 {
		texts := printing(50)
		texts[slow] = forever
		got, err := many.All(texts, 1+slow%16)
		if err != nil || len(got) != 50 {
			t.Fatalf("%d answers, error %v", len(got), err)
		}
		for i, a := range got {
			if i == slow && (a.Code != run.Stopped || len(a.Log) != 0) || i != slow && (a.Code != run.Done || !slices.Equal(a.Log, []string{strconv.Itoa(i)})) {
				t.Errorf("text %d (%d is slow): %+v", i, slow, a.Result)
			}
		}
	}
}

// P4: the texts stay as they are, and so do those behind the list's length.
func TestAllTextsStay(t *testing.T) {
	all := printing(60)
	if _, err := many.All(all[:50], 4); err != nil {
		t.Errorf("50 texts of a longer list: error %v", err)
	}
	if !slices.Equal(all, printing(60)) {
		t.Errorf("the texts were changed: %v", all)
	}
}

// P4: no two answers share a list or an error, be it in one call or in two.
func TestAllApart(t *testing.T) {
	texts := slices.Repeat([]string{"let a; print(a);", "a"}, 10)
	want := ones(texts)
	first, _ := many.All(texts, 4)
	for i := range first {
		again, _ := many.All(texts, 4)
		for k := range first {
			wantSame(t, texts[k], again[k], want[k])
			if k > i {
				wantSame(t, texts[k], first[k], want[k])
			}
		}
		spoil(first[i])
	}
}

// spoil writes into all that an answer has.
func spoil(a many.Answer) {
	for i := range a.Log {
		a.Log[i] = "spoilt"
	}
	for i := range a.Seen {
		a.Seen[i] = [2]int{-9, -9}
	}
	if at, ok := a.Err.(*api.At); ok {
		at.Err, at.Place = api.ErrFull, -9
	}
}

// P4: calls that are under way at the same time make no difference to each other.
func TestAllAtOnce(t *testing.T) {
	want := ones(ofEachKind)
	var asking sync.WaitGroup
	for workers := 1; workers <= 16; workers++ {
		asking.Go(func() {
			got, err := many.All(ofEachKind, workers)
			if err != nil || len(got) != len(want) {
				t.Errorf("%d workers: %d answers, error %v", workers, len(got), err)
				return
			}
			for i, a := range got {
				wantSame(t, ofEachKind[i], a, want[i])
			}
		})
	}
	asking.Wait()
}

// No worker is left behind, be it that there is nothing to do or that the call is refused.
func TestAllWorkersEnd(t *testing.T) {
	before := runtime.NumGoroutine()
	for range 20 {
		many.All(printing(50), 16)
		many.All(printing(2), 16)
		many.All(nil, 16)
		many.All(printing(51), 16)
		many.All(printing(50), 17)
	}
	for range 2000 {
		if runtime.NumGoroutine() <= before {
			return
		}
		time.Sleep(time.Millisecond)
	}
	t.Errorf("%d goroutines, %d before", runtime.NumGoroutine(), before)
}
