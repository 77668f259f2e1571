package desk_test

import (
	"strings"
	"testing"

	"sloppyscope/api"
)

// Promise 11.1: each line of the table but help and rename.

func TestText(t *testing.T) {
	wantLines(t, []line{
		{"text ", ""},
		{"text ;", ";"},
		{"text ;;;", "; ; ;"},
		{"text a=1;", "a = 1;"},
		{"text if(a)b=1;else{}", "if (a) b = 1; else {}"},
		{"text   var a ;let b;  const c=1 ; ", "var a; let b; const c = 1;"},
		{"text function f(a,b){return a;} f(1,2);", "function f(a, b) {return a;} f(1, 2);"},
		{"text {a;b;} c;", "{a; b;} c;"},
		{"text ({});", "({});"},
		{"text (1+2)*3;", "(1 + 2) * 3;"},
		{"text 'a\\nb';", "'a\\nb';"},
		{"text 'a\\nb'; '\\n'; 'c';", "'a\\nb'; '\\n'; 'c';"},
		{"text '\\n';", "'\\n';"},
		{"text '\\\\n\\'';", "'\\\\n\\'';"},
		{"text '  a  ';", "'  a  ';"},
		{"text 'help';", "'help';"},
		{"text '\xff\x00\u00e9';", "'\xff\x00\u00e9';"},
		{"text 'use strict'; a;", "'use strict'; a;"},
		{"text text;", "text;"},
		{"text text text;", "error 3"},
	})
	// what is wrong ahead of running can be told
	wantLines(t, []line{{"text return;", "return;"}, {"text let a; let a;", "let a; let a;"}, {"text 'use strict'; delete a;", "'use strict'; delete a;"}})
}

func TestCheck(t *testing.T) {
	wantLines(t, []line{
		{"check", "right"},
		{"check ", "right"},
		{"check a;", "right"},
		{"check var a; var a; a = 1;", "right"},
		{"check with (a) b;", "right"},
		{"check delete a;", "right"},
		{"check var eval;", "right"},
		{"check function f(a, a) {return a;}", "right"},
		{"check throw 1;", "right"},
		{"check while (true) ;", "right"},
		{"check return;", "error 6"},
		{"check {return 1;}", "error 6"},
		{"check let a; let a;", "error 9"},
		{"check let a; var a;", "error 9"},
		{"check if (a) let b;", "error 1"},
		{"check 'use strict'; with (a) b;", "error 1"},
		{"check 'use strict'; delete a;", "error 1"},
		{"check 'use strict'; var eval;", "error 5"},
		{"check function f(a, a) {'use strict';}", "error 9"},
	})
	// what can't be read comes first; then what is wrong from the left
	wantLines(t, []line{{"check return; 1 = 2;", "error 1"}, {"check return; let a; let a;", "error 9"}, {"check return; if (a) let b;", "error 6"}, {"check if (a) let b; return;", "error 1"}})
}

func TestNames(t *testing.T) {
	wantLines(t, []line{
		{"names", ""},
		{"names ", ""},
		{"names a; {let b;}", ""},
		{"names let a;", "a"},
		{"names function f() {} if (a) var b; let c;", "b f c"},
		{"names let c; function b() {} var z; var a; var z;", "z a b c"},
		{"names {let a; function b() {} var c;} function f(d) {var e;} try {} catch (g) {var h;}", "c h f"},
		{"names let a; let a;", "a"},
		{"names var a; return;", "a"},
	})
}

func TestFree(t *testing.T) {
	wantLines(t, []line{
		{"free", ""},
		{"free ", ""},
		{"free var a; a;", ""},
		{"free a;", "a"},
		{"free c; b; a; b; c;", "a b c"},
		{"free function f() {} if (a) var b; let c;", "a"},
		{"free print(z, f(function(z) {return arguments.y + y;}));", "f print y z"},
		{"free let a; let a; b;", "b"},
		{"free return a;", "a"},
	})
}

func TestFold(t *testing.T) {
	wantLines(t, []line{
		{"fold", ""},
		{"fold ", ""},
		{"fold a;", "a;"},
		{"fold print(1 + 2 * 3);", "print(7);"},
		{"fold 1 + 1; 'a' + 'b'; !0; typeof 1;", "2; 'ab'; true; 'number';"},
		{"fold 'a\\n' + 'b';", "'a\\nb';"},
		{"fold 'use ' + 'strict'; a;", "'use ' + 'strict'; a;"},
		{"fold 1 - 2; null + 1; 0 || a;", "1 - 2; null + 1; 0 || a;"},
		{"fold 1 && {};", "({});"},
		{"fold return 1 + 1;", "return 2;"},
		{"fold let a; let a;", "let a; let a;"},
	})
}

func TestWhere(t *testing.T) {
	wantLines(t, []line{
		{"where", ""},
		{"where ", ""},
		{"where var a; let b;", ""},
		{"where function f(a) {}", ""},
		{"where a;", "2 -1"},
		{"where let a; a;", "3 0"},
		{"where function f(a) { return a; }", "6 1"},
		{"where let a; a; b; a;", "3 0, 5 -1, 7 0"},
		{"where with (a) b;", "2 -1, 4 -1 ?"},
		{"where let b; with (a) b; b;", "3 -1, 5 0 ?, 7 0"},
		{"where function f() {eval('a;'); a; var b; b;}", "6 -1 ?, 9 -1 ?, 12 1"},
		{"where function f() {'use strict'; eval('a;'); a;}", "8 -1, 11 -1"},
		{"where try {} catch (e) {e;}", "6 3"},
		{"where {let a; a;} a;", "4 1, 6 -1"},
		{"where return a;", "2 -1"},
		{"where let a; let a; a;", "4 0"},
	})
}

func TestRun(t *testing.T) {
	wantLines(t, []line{
		{"run", " | done | 0"},
		{"run ", " | done | 0"},
		{"run ;", " | done | 1"},
		{"run print(1);", "1 | done | 4"},
		{"run print(1); print(2); print(3);", "1; 2; 3 | done | 12"},
		{"run print(); print();", ";  | done | 6"},
		{"run print();", " | done | 3"},
		{"run print('');", " | done | 4"},
		{"run print(1, 'a', null);", "1 a null | done | 6"},
		{"run var o = {x: 1}; with (o) { var x = 2; } print(x, o.x);", "undefined 2 | done | 14"},
		{"run throw 1;", " | throws 1 | 2"},
		{"run throw 'a';", " | throws a | 2"},
		{"run throw '';", " | throws  | 2"},
		{"run throw {};", " | throws object | 2"},
		{"run throw undefined;", " | throws undefined | 2"},
		{"run print(1); throw 2; print(3);", "1 | throws 2 | 6"},
		{"run a;", " | throws reference | 2"},
		{"run 1();", " | throws type | 3"},
		{"run while (true) ;", " | stopped | 20001"},
		{"run print('a'); print('b'); while (true) ; print('c');", "a; b | stopped | 20001"},
		{"run try {while (true) ;} catch (e) {print(e);} finally {print('f');}", " | stopped | 20001"},
		{"run return;", "error 6"},
		{"run print(1); return;", "error 6"},
		{"run let a; var a;", "error 9"},
		{"run if (a) let b;", "error 1"},
		{"run 'use strict'; var eval;", "error 5"},
		{"run return; 1 = 2;", "error 1"},
	})
}

// A line of Log, or what is thrown, may have line feeds, which end no line; all else is told as it is.
func TestRunLineFeeds(t *testing.T) {
	wantLines(t, []line{
		{"run print('a\\nb');", "a\\nb | done | 4"},
		{"run print('\\n');", "\\n | done | 4"},
		{"run print('\\n\\n', '\\n'); print('\\n');", "\\n\\n \\n; \\n | done | 9"},
		{"run throw 'a\\nb';", " | throws a\\nb | 2"},
		{"run throw '\\n';", " | throws \\n | 2"},
		{"run print('a\\nb', 1); throw 'x\\ny\\n';", "a\\nb 1 | throws x\\ny\\n | 7"},
		{"run print('a\\nb'); while (1) ;", "a\\nb | stopped | 20001"},
		{"run print('\\\\n'); throw '\\\\';", "\\n | throws \\ | 6"},
		{"run print('a; b | done | 1'); throw ' | ';", "a; b | done | 1 | throws  |  | 6"},
		{"run print('\\'', '\xff\x00');", "' \xff\x00 | done | 5"},
	})
}

// Many lines that take as long as a line can.
func TestRunLong(t *testing.T) {
	const line = "run while (1) ;\n"
	count := api.MaxText / len(line)
	wantSession(t, strings.Repeat(line, count), strings.Repeat(" | stopped | 20001\n", count))
}
