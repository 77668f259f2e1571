package desk_test

import "testing"

// Promise 11.1: rename; and numbers.

func TestRename(t *testing.T) {
	wantLines(t, []line{
		{"rename 0 a b let a; a = 1;", "let b; b = 1;"},
		{"rename 0 a b let a;", "let b;"},
		{"rename 1 a b function f(a) { return a; }", "function f(b) {return b;}"},
		{"rename 1 a b function f(a) {return a; {let a; a;}} a;", "function f(b) {return b; {let a; a;}} a;"},
		{"rename 0 a b let a; function f() {return a;} let c;", "let b; function f() {return b;} let c;"},
		{"rename 3 e x try {} catch (e) {print(e);}", "try {} catch (x) {print(x);}"},
		{"rename 1 a b {let a = 'a\\nb'; a;} a;", "{let b = 'a\\nb'; b;} a;"},
		{"rename 0 rename run let rename; text;", "let run; text;"},
		// what is wrong ahead of running does not matter
		{"rename 0 a b let a; return a;", "let b; return b;"},
		{"rename 0 a b let a; let a;", "let b; let b;"},
	})
}

func TestRenameRefused(t *testing.T) {
	wantRefused(t, "error 7",
		"rename 0 a b var a;", "rename 0 a b a;", "rename 1 a b let a;", "rename 2 a b let a;", "rename -1 a b let a;", "rename 9 a b let a;",
		"rename 0 b a let a;", "rename 0 A b let a;", "rename 0 a b ", "rename 0 a b  ", "rename 1 f g function f() {}")
	wantRefused(t, "error 5",
		"rename 0 a eval let a;", "rename 0 a arguments let a;", "rename 0 a let let a;", "rename 0 a 1 let a;", "rename 0 a B let a;", "rename 0 a b; let a;",
		"rename 0 a a.b let a;", "rename 0 a b\t let a;", "rename 0 a aaaaabbbbbcccccddddde let a;", "rename 0 eval b let eval;")
	wantRefused(t, "error 9", "rename 0 a a let a;", "rename 0 a b let a; b;", "rename 0 a b let a; {var b;}", "rename 0 a f let a; function f() {}")
	wantRefused(t, "error 1", "rename 0 a b let a; with (c) d;", "rename 0 a b let a; eval('a;');")
	// of several things Rename tells the first one
	wantRefused(t, "error 7", "rename 0 b eval let a; with (c) d;", "rename 1 a a let a;")
	wantRefused(t, "error 5", "rename 0 a eval let a; eval('a;');")
	wantRefused(t, "error 9", "rename 0 a b let a; with (b) a;")
}

// The words have one blank behind each: what is missing is empty, and so is what stands between two blanks.
func TestRenameWords(t *testing.T) {
	wantRefused(t, "error 3",
		"rename", "rename ", "rename  ", "rename a", "rename a b", "rename a b let a;", "rename let a;",
		"rename  0 a b let a;", "rename 0  a b let a;", "rename 0 a  b let a;", "rename\t0 a b let a;", "rename 0\ta b let a;", "rename 0, a b let a;", "rename 0 a b c let a;")
	wantRefused(t, "error 7", "rename 0", "rename 0 ", "rename 0 a", "rename 0 a ", "rename 0 a b", "rename 1 a b", "rename 0  a b;", "rename 0   ")
	wantRefused(t, "error 5", "rename 0 a  let a;")
	wantLines(t, []line{{"rename 0 a b  let a;", "let b;"}, {"rename 0 a b   let a; ", "let b;"}})
}

func TestNumbers(t *testing.T) {
	wantLines(t, []line{
		{"rename 0 a b let a;", "let b;"},
		{"rename 10 a b ;;;;;;;;; {let a;} a;", "; ; ; ; ; ; ; ; ; {let b;} a;"},
	})
	wantRefused(t, "error 7",
		"rename -1 a b let a;", "rename -10 a b let a;", "rename 1 a b let a;", "rename 10 a b let a;", "rename 4294967296 a b let a;", "rename -4294967296 a b let a;",
		"rename 9223372036854775807 a b let a;", "rename -9223372036854775808 a b let a;")
	wantRefused(t, "error 3",
		"rename 00 a b let a;", "rename 01 a b let a;", "rename -01 a b let a;", "rename 000 a b let a;", "rename +0 a b let a;", "rename +1 a b let a;",
		"rename - a b let a;", "rename + a b let a;", "rename --1 a b let a;", "rename -+1 a b let a;", "rename 1- a b let a;", "rename 0x0 a b let a;", "rename 0b0 a b let a;",
		"rename 1_0 a b let a;", "rename 1e0 a b let a;", "rename 0.0 a b let a;", "rename 0. a b let a;", "rename a a b let a;", "rename \u0660 a b let a;", "rename 0\x00 a b let a;", "rename '0' a b let a;",
		"rename 9223372036854775808 a b let a;", "rename -9223372036854775809 a b let a;", "rename 18446744073709551616 a b let a;", "rename 100000000000000000000000000000 a b let a;", "rename 00000000000000000000 a b let a;")
}

// The number counts ahead of the program, and that ahead of what may be renamed.
func TestRenameOrder(t *testing.T) {
	wantRefused(t, "error 3", "rename x a b 1 = 2;", "rename 00 a b 1 = 2;", "rename 00 eval eval 1000000001;", "rename 01 a b let a; with (c) d;", "rename 01 x y let a;")
	wantRefused(t, "error 1", "rename 0 a b 1 = 2;", "rename 9 a b 1 = 2;", "rename 0 eval eval 1 = 2;", "rename 0 a a let a; 1 = 2;", "rename 0   1 = 2;")
	wantRefused(t, "error 2", "rename -1 a b 1000000001;", "rename 0 1 2 1000000001;")
	wantRefused(t, "error 7", "rename 9 a b let a; return;", "rename 0 x b let a; let a;")
}
