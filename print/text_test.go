package print

import (
	"strings"
	"testing"
)

// C1 to C4: the document's example.
func TestExample(t *testing.T) {
	checkLines(t, `MODULE M; IMPORT L; VAR i: INTEGER;
PROCEDURE Go*;
BEGIN GET(i); WHILE i > 0 DO L.Push(i * L.two); i := i - 1 END; OUT(L.p.v + 2 * 3); L.p := L.p.n
END Go; END M.`,
		strings.Split("MODULE M;|IMPORT L;|VAR|  i: INTEGER;|PROCEDURE Go*;|BEGIN|  GET(i);|  WHILE i > 0 DO|    L.Push(i * L.two);|    i := i - 1|  END;|  OUT(L.p.v + 2 * 3);|  L.p := L.p.n|END Go;|END M.", "|")...)
}

// C2: parts of a module, each where there are some.
func TestParts(t *testing.T) {
	checkLines(t, "MODULE M; END M.", "MODULE M;", "END M.")
	checkLines(t, "MODULE M; CONST TYPE VAR BEGIN ; ; END M.", "MODULE M;", "END M.")
	checkLines(t, "MODULE M; IMPORT A; END M.", "MODULE M;", "IMPORT A;", "END M.")
	checkLines(t, "MODULE M; IMPORT A,B,C; END M.", "MODULE M;", "IMPORT A, B, C;", "END M.")
	checkLines(t, "MODULE M; CONST a = 1; b* = a+a; END M.", "MODULE M;", "CONST", "  a = 1;", "  b* = a + a;", "END M.")
	checkLines(t, "MODULE M; VAR a: T; b*: A.T; END M.", "MODULE M;", "VAR", "  a: T;", "  b*: A.T;", "END M.")
	checkLines(t, "MODULE M; BEGIN f END M.", "MODULE M;", "BEGIN", "  f", "END M.")
	checkLines(t, everything,
		"MODULE Every;", "IMPORT A, B;",
		"CONST", "  c* = 1 + 2 * (-3);", "  d = ~TRUE & FALSE OR (c # 4);",
		"TYPE", "  P* = POINTER TO R;", "  R* = RECORD a*: INTEGER; b: A.T; END;", "  S = RECORD (B.R) END;", "  Q = ARRAY 12 OF A.T;",
		"VAR", "  v*: INTEGER;", "  w: A.T;",
		"PROCEDURE None;", "BEGIN", "END None;",
		"PROCEDURE Some*(x: INTEGER; VAR y: A.T): BOOLEAN;", "VAR", "  z: INTEGER;", "  u: P;", "BEGIN", "  z := x;", "  RETURN z >= 3", "END Some;",
		"PROCEDURE Empty;", "BEGIN", "  RETURN", "END Empty;",
		"BEGIN", "  v := w.a[1 + v]^{A.P}.b;", "  None;", "  Some(v, w);",
		"  IF v = 1 THEN", "    NEW(w)", "  ELSIF Some(1, w) THEN", "    OUT(v)", "  ELSIF v < 2 THEN", "  ELSE", "    GET(w[2])", "  END;",
		"  WHILE v <= 2 DO", "    ASSERT(w IS A.P)", "  END;",
		"  REPEAT", "    v := f() DIV 2 MOD 3 - NIL", "  UNTIL v > 1",
		"END Every.")
}

// C2: types stand on one line.
func TestTypes(t *testing.T) {
	for text, want := range map[string]string{
		"ARRAY 3 OF T": "ARRAY 3 OF T", "ARRAY 007 OF A.T": "ARRAY 7 OF A.T", "ARRAY 0 OF T": "ARRAY 0 OF T", "ARRAY 2147483647 OF T": "ARRAY 2147483647 OF T",
		"POINTER  TO T": "POINTER TO T", "POINTER TO A . T": "POINTER TO A.T",
		"RECORD END": "RECORD END", "RECORD(B)END": "RECORD (B) END", "RECORD (A.B) END": "RECORD (A.B) END",
		"RECORD a:T; END":           "RECORD a: T; END",
		"RECORD (B) a:T;b*:A.T;END": "RECORD (B) a: T; b*: A.T; END",
	} {
		checkLines(t, "MODULE M; TYPE N = "+text+"; END M.", "MODULE M;", "TYPE", "  N = "+want+";", "END M.")
		checkLines(t, "MODULE M; TYPE N* = "+text+"; END M.", "MODULE M;", "TYPE", "  N* = "+want+";", "END M.")
	}
}

// C2: heads of procedures.
func TestHeads(t *testing.T) {
	for text, want := range map[string]string{
		"P": "P", "P()": "P", "P*": "P*", "P*()": "P*",
		"P():T": "P(): T", "P:T": "P(): T", "P*: A.T": "P*(): A.T",
		"P(a:T)": "P(a: T)", "P*(VAR a:A.T)": "P*(VAR a: A.T)",
		"P(a:T;VAR b:T;c:T):T": "P(a: T; VAR b: T; c: T): T",
	} {
		checkLines(t, "MODULE M; PROCEDURE "+text+"; BEGIN END P; END M.", "MODULE M;", "PROCEDURE "+want+";", "BEGIN", "END P;", "END M.")
	}
	checkLines(t, "MODULE M; PROCEDURE P; VAR a: T; BEGIN f; g END P; PROCEDURE Q; VAR BEGIN f END Q; BEGIN h END M.",
		"MODULE M;", "PROCEDURE P;", "VAR", "  a: T;", "BEGIN", "  f;", "  g", "END P;", "PROCEDURE Q;", "BEGIN", "  f", "END Q;", "BEGIN", "  h", "END M.")
}

// C3: acts of one line.
func TestPlainActs(t *testing.T) {
	checkActs(t, "d:=e", "  d := e")
	checkActs(t, "d", "  d")
	checkActs(t, "d()", "  d")
	checkActs(t, "A.d(e)", "  A.d(e)")
	checkActs(t, "d(e,1+2 , f())", "  d(e, 1 + 2, f())")
	checkActs(t, "RETURN", "  RETURN")
	checkActs(t, "RETURN(e)", "  RETURN e")
	checkActs(t, "NEW(a.b);OUT(1-a);GET(a[1]);ASSERT(a=b)", "  NEW(a.b);", "  OUT(1 - a);", "  GET(a[1]);", "  ASSERT(a = b)")
	checkActs(t, ";;f;;g;;", "  f;", "  g")
}

// C3: acts with acts within.
func TestActsWithin(t *testing.T) {
	checkActs(t, "IF a THEN END", "  IF a THEN", "  END")
	checkActs(t, "IF a THEN f END; g", "  IF a THEN", "    f", "  END;", "  g")
	checkActs(t, "IF a THEN f; g ELSE h; i END", "  IF a THEN", "    f;", "    g", "  ELSE", "    h;", "    i", "  END")
	checkActs(t, "IF a THEN ELSIF b THEN ELSIF c THEN f END", "  IF a THEN", "  ELSIF b THEN", "  ELSIF c THEN", "    f", "  END")
	checkActs(t, "IF a THEN ELSIF b THEN ELSE END", "  IF a THEN", "  ELSIF b THEN", "  ELSE", "  END")
	checkActs(t, "WHILE a DO END; WHILE b DO f; g END", "  WHILE a DO", "  END;", "  WHILE b DO", "    f;", "    g", "  END")
	checkActs(t, "REPEAT UNTIL a; REPEAT f; g UNTIL a OR b", "  REPEAT", "  UNTIL a;", "  REPEAT", "    f;", "    g", "  UNTIL a OR b")
	checkActs(t, "WHILE a DO REPEAT IF b THEN f END; IF c THEN ELSE g END UNTIL d; h END",
		"  WHILE a DO", "    REPEAT", "      IF b THEN", "        f", "      END;", "      IF c THEN", "      ELSE", "        g", "      END", "    UNTIL d;", "    h", "  END")
	checkLines(t, "MODULE M; PROCEDURE P; BEGIN IF a THEN f END END P; END M.", "MODULE M;", "PROCEDURE P;", "BEGIN", "  IF a THEN", "    f", "  END", "END P;", "END M.")
}

// C4: what is written without brackets, or just with those that stand here.
func TestExpressions(t *testing.T) {
	for _, e := range []string{
		"0", "7", "2147483647", "TRUE", "FALSE", "NIL", "a", "a.b", "a.b.c", "a[1]", "a[b[1] + 2]", "a^", "a{T}", "a{A.T}.b^[1]{T}", "f()", "f(a)", "f(a, b + 1, g())", "a.f(~b)",
		"-a", "~a", "~~a", "~f()", "-f(1)", "a + b", "a - b", "a OR b", "a * b", "a DIV b", "a MOD b", "a & b", "a = b", "a # b", "a < b", "a <= b", "a > b", "a >= b", "a IS T", "a IS A.T",
		// chains from the left
		"a + b - c OR d", "a * b DIV c MOD d & e", "a - b - c", "a DIV b DIV c", "-a + b - c", "-a * b", "-a * b + c * d", "a + b * c", "a * b + c",
		// as parts of products
		"(a + b) * c", "(a - b) DIV c", "(a OR b) & c", "(-a) * b", "(a = b) & c", "(a IS T) & c", "a * (b + c)", "a * (-b)", "a & (b < c)", "a & (b IS T)", "a DIV (b DIV c)", "a * (b * c)", "a & ~b", "~a & b",
		// below -
		"-(a + b)", "-(-a)", "-(a = b)", "-(a IS T)", "-~a", "-(a - b) * c",
		// right of sums
		"a - (b - c)", "a + (b + c)", "a OR (b OR c)", "a + (-b)", "a OR (b = c)", "a OR (b IS T)", "a - b * c", "a OR ~b",
		// left of sums
		"(a = b) OR c", "(a IS T) OR c", "-a OR b", "-(a * b + c) + d", "(a < b) + c - d",
		// on either side of a relation, left of IS
		"(a = b) = c", "a = (b = c)", "(a IS T) = b", "a = (b IS T)", "(a < b) # (c >= d)", "a + b < c - d", "-a < -b", "a * b <= c OR d", "~a = ~b", "(a IS T) IS U", "(a = b) IS T", "a + b IS T", "-a IS T", "a * b IS T", "~a IS T", "1 IS T", "f() IS T",
		// below ~
		"~(a & b)", "~(a * b)", "~(a OR b)", "~(-a)", "~(a = b)", "~(a IS T)", "~a.b[1]^", "~1", "~(~a & b)",
		// brackets, and the like, around any expression
		"a[b = c]", "a[-b]", "a[b IS T]", "f(a = b, -c, d IS T)", "a[(b = c) = d]",
	} {
		checkActs(t, "x := "+e, "  x := "+e)
	}
}

// C4: brackets without which the tree is the same one are not written.
func TestNeedlessBrackets(t *testing.T) {
	for text, want := range map[string]string{
		"((a))": "a", "(a + b) + c": "a + b + c", "(a * b) * c": "a * b * c", "(a * b) + (c * d)": "a * b + c * d", "(a + b) = (c - d)": "a + b = c - d", "(a & b) OR c": "a & b OR c",
		"(-a) + b": "-a + b", "-(a * b)": "-a * b", "-(a)": "-a", "~(~a)": "~~a", "~(f(a))": "~f(a)", "~(1)": "~1", "(a.b) * (c[1])": "a.b * c[1]", "a * (~b)": "a * ~b", "a + (b * c)": "a + b * c",
		"(-a) = (-b)": "-a = -b", "(a) IS T": "a IS T", "(a - b) IS T": "a - b IS T", "(-a) IS T": "-a IS T", "f((a = b))": "f(a = b)", "a[(b + c)]": "a[b + c]", "(a = b)": "a = b", "(a IS T)": "a IS T",
	} {
		checkActs(t, "x := "+text, "  x := "+want)
	}
}
