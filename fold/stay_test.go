package fold_test

import "testing"

// Promise 9.1: what stays as it is.

// What would throw is left to throw.
func TestStayThrows(t *testing.T) {
	wantStay(t, "1000000000 + 1;", "1000000000 * 2;", "1 < 'a';", "null - 1;", "true + false;", "try {null < null;} catch (e) {print(e);}", "0 * null || a;", "!(1 + null);", "typeof (1000000000 * 1000000000);")
	wantFold(t, "true || 1 + null;", "true;")
	wantFold(t, "1 && 1 + null;", "1 + null;")
}

// A number below 0 has no literal.
func TestStayBelow(t *testing.T) {
	wantStay(t, "0 - 1;", "print(1 - 2);", "!(0 - 1);", "(0 - 1) * (0 - 1);", "0 - (0 - 1);", "'a' + (0 - 1);", "0 - 1 === 0 - 1;", "0 - 1 < 0;", "(0 - 1) || a;", "typeof (0 - 1);")
	wantFold(t, "1 && 0 - 1;", "0 - 1;")
	wantFold(t, "0 || 0 - 1;", "0 - 1;")
}

// That text would make strict code of a program.
func TestStayStrictText(t *testing.T) {
	wantStay(t, "'use ' + 'strict';", "'use strict' + '';", "'' + 'use strict';", "0 || 'use strict';", "1 && 'use strict';", "'use strict' || 1;", "a = 'use ' + 'strict';", "function f() {0 || 'use strict';}", "!('use ' + 'strict');", "typeof ('' + 'use strict');", "'use strict'; 'use strict';", "('use strict');")
	wantFold(t, "'use ' + 'Strict';", "'use Strict';")
	wantFold(t, "'use strict' && 1;", "1;")
	wantFold(t, "'use strict' < 'use strict';", "false;")
	wantFold(t, "1 || 'use strict';", "1;")
}

// A Name or a Member would mean something else to delete, typeof and calls.
func TestStayNames(t *testing.T) {
	wantStay(t, "0 || a;", "1 && a;", "0 || a.b;", "1 && a.b.c;", "(0 || eval)('1;');", "(1 && eval)('1;');", "delete (0 || a);", "delete (1 && a.b);", "typeof (0 || a);", "(0 || a.b)();", "0 || 'a'.b;", "0 || arguments;", "'use strict'; delete (0 || a);")
	// What else comes of it is no Name, even if it stands for one.
	wantFold(t, "delete (1 && (0 || a));", "delete (0 || a);")
	wantFold(t, "delete (1 && f());", "delete f();")
	wantFold(t, "typeof (1 && delete a);", "typeof delete a;")
	// The part that goes may be one.
	wantFold(t, "1 || a;", "1;")
	wantFold(t, "0 && a.b;", "0;")
}

// Nothing but these values changes, whatever is known of their parts.
func TestStayOthers(t *testing.T) {
	wantStay(t,
		"delete 1;", "delete 'a';", "1 .a;", "'a'.length;", "1();", "undefined(1);", "a = 1;", "if (true) a; else b;", "while (false) a;", "with (1) a;", "{1;}", "1; 2;", "return_ = 1;",
		"throw 1;", "function f() {return 1; 2;}", "var a = 1; a + 1;", "const a = 1; print(a + a);", "a - a;", "a * 0;", "a + '';", "a === a;", "!a || true;", "a && false;", "({}) + 1;", "f() || 1;", "typeof a === 'undefined';",
		"eval('1 + 2;');", "print(eval('1' , 2));", "try {throw 1;} catch (a) {} finally {}", "({a: 1}).a;", "(function() {return 1;})();", ";;", "if (0) {}", "delete (1 - 2);",
	)
	wantFold(t, "if (1 < 2) a; else b;", "if (true) a; else b;")
	wantFold(t, "delete (1 + 1);", "delete 2;")
	wantFold(t, "eval('1 + ' + '2;');", "eval('1 + 2;');")
	wantFold(t, "a + 1 * 1 - 0 * 1;", "a + 1 - 0;")
}
