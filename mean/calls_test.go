package mean_test

import (
	"testing"

	"oberlin/api"
)

// kinds of variables, for the tests.
const kinds = "TYPE R = RECORD a: INTEGER; b: BOOLEAN; END; P = POINTER TO R; Row = ARRAY 3 OF INTEGER; Rows = ARRAY 2 OF Row; S = RECORD (R) c: Row; p: P; END; Q = POINTER TO S; "

// G2: at first all variables are 0, FALSE, NIL, those of each call, too.
func TestAtFirst(t *testing.T) {
	doesAll(t, []act{
		{kinds + "VAR i: INTEGER; b: BOOLEAN; p: P; r: Rows; s: S;", "OUT(i); ASSERT(~b); ASSERT(p = NIL); OUT(r[1][2]); OUT(s.a); ASSERT(~s.b & (s.p = NIL)); OUT(s.c[0])", "0 0 0 0 0 0"},
		{kinds + "PROCEDURE f(n: INTEGER); VAR i: INTEGER; b: BOOLEAN; p: P; s: S; BEGIN OUT(i); ASSERT(~b & (p = NIL)); OUT(s.c[2]); i := 5; b := TRUE; NEW(p); s.c[2] := 4; s.p := p; IF n > 0 THEN f(n - 1) END; OUT(i) END f;", "f(1); f(0)", "0 9 0 0 0 0 5 5 0 0 5"},
		{kinds + "VAR p: Q;", "NEW(p); p.a := 3; p.c[1] := 4; NEW(p.p); NEW(p); OUT(p.a); OUT(p.c[1]); ASSERT(p.p = NIL)", "0 17 0 0"},
	})
}

// G2: a value parameter is the call's own; a VAR parameter is the very variable that is handed over, by whatever calls it goes.
func TestParameters(t *testing.T) {
	doesAll(t, []act{
		{"VAR i: INTEGER; PROCEDURE f(x: INTEGER); BEGIN x := x + 1; OUT(x); OUT(i) END f;", "i := 4; f(i); OUT(i)", "0 0 5 4 4"},
		{"VAR i: INTEGER; PROCEDURE f(VAR x: INTEGER); BEGIN x := x + 1; OUT(i); i := 9; OUT(x) END f;", "i := 4; f(i); OUT(i)", "0 0 5 9 9"},
		{"VAR i: INTEGER; PROCEDURE f(VAR x: INTEGER; VAR y: INTEGER); BEGIN x := 1; y := 2; OUT(x) END f;", "f(i, i); OUT(i)", "0 0 2 2"},
		{"VAR i: INTEGER; PROCEDURE g(VAR y: INTEGER; n: INTEGER); BEGIN y := y + n; IF n > 0 THEN g(y, n - 1) END END g; PROCEDURE f(VAR x: INTEGER); BEGIN g(x, 3) END f;", "f(i); OUT(i)", "0 0 6"},
		{"PROCEDURE g(VAR y: INTEGER); BEGIN y := 7 END g; PROCEDURE f(x: INTEGER); VAR z: INTEGER; BEGIN g(x); g(z); OUT(x); OUT(z) END f;", "f(1)", "0 0 7 7"},
		{kinds + "VAR r: Rows; PROCEDURE f(VAR x: Row; VAR y: INTEGER); BEGIN x[0] := 5; y := x[0] + 1 END f;", "f(r[1], r[1][2]); OUT(r[0][0]); OUT(r[1][0]); OUT(r[1][2])", "0 0 0 5 6"},
		{kinds + "VAR p: P; PROCEDURE f(VAR x: P); BEGIN NEW(x); x.a := 3 END f;", "f(p); OUT(p.a)", "0 3 3"},
		{kinds + "VAR p: Q; PROCEDURE f(VAR x: INTEGER); BEGIN p := NIL; x := 8; OUT(x) END f;", "NEW(p); f(p.c[1])", "0 7 8"},
		{kinds + "VAR s: S; PROCEDURE f(VAR x: R); BEGIN x.a := 8; x.b := TRUE END f;", "s.c[0] := 2; f(s); OUT(s.a); ASSERT(s.b); OUT(s.c[0])", "0 0 8 2"},
		{kinds + "VAR q: Q; PROCEDURE f(VAR x: R); BEGIN x.a := 8 END f;", "NEW(q); f(q^); OUT(q.a)", "0 7 8"},
		{"VAR x: INTEGER; PROCEDURE f(VAR i: INTEGER); VAR x: INTEGER; BEGIN x := 3; i := x + i; OUT(x) END f;", "x := 1; f(x); OUT(x)", "0 0 3 4"},
	})
}

// G2: a VAR parameter of another module's record, handed on there.
func TestParametersOfOthers(t *testing.T) {
	texts := []string{
		"MODULE A; TYPE R* = RECORD a*: INTEGER; END; VAR r*: R; i*: INTEGER; PROCEDURE set*(VAR x: R; VAR y: INTEGER); BEGIN x.a := 1; y := 2; i := i + 10 END set; END A.",
		"MODULE B; IMPORT A; TYPE S* = RECORD (A.R) b*: INTEGER; END; VAR i*: INTEGER; s*: S; PROCEDURE set*(VAR x: S); BEGIN A.set(x, x.b); A.set(A.r, A.i); i := 5 END set; BEGIN set(s); OUT(s.a); OUT(s.b); OUT(A.r.a); OUT(A.i) END B.",
		"MODULE M; IMPORT B, A; VAR i: INTEGER; BEGIN OUT(i); OUT(B.i); OUT(A.i); A.i := 3; B.set(B.s); OUT(A.i) END M.",
	}
	runs(t, texts, 0, nil, "0 0|0 0 1 2 1 12|0 0 0 5 12 12")
}

// G2, G4: results, and procedures without one's end.
func TestResults(t *testing.T) {
	doesAll(t, []act{
		{"PROCEDURE f(n: INTEGER): INTEGER; BEGIN IF n < 2 THEN RETURN n END; RETURN f(n - 1) + f(n - 2) END f;", "OUT(f(10))", "0 0 55"},
		{"PROCEDURE f(): INTEGER; BEGIN RETURN 3; OUT(1) END f;", "OUT(f())", "0 0 3"},
		{"PROCEDURE f(): INTEGER; BEGIN OUT(1) END f;", "OUT(2); OUT(f()); OUT(3)", "10 0 2 1"},
		{"PROCEDURE f(n: INTEGER): INTEGER; BEGIN WHILE n > 0 DO IF n = 3 THEN RETURN 7 END; n := n - 1 END END f;", "OUT(f(5)); OUT(f(2))", "10 0 7"},
		{"PROCEDURE f; BEGIN OUT(1); RETURN; OUT(2) END f;", "f; OUT(3); RETURN; OUT(4)", "0 0 1 3"},
		{"PROCEDURE f; BEGIN WHILE TRUE DO REPEAT IF TRUE THEN OUT(1); RETURN END; OUT(2) UNTIL FALSE END END f;", "f; OUT(3)", "0 0 1 3"},
		{"PROCEDURE f(): BOOLEAN; BEGIN RETURN 1 = 1 END f; PROCEDURE g(): BOOLEAN; BEGIN RETURN FALSE END g;", "ASSERT(f()); ASSERT(~g())", "0 0"},
		{kinds + "VAR p: P; PROCEDURE f(n: INTEGER): P; VAR q: Q; BEGIN IF n = 0 THEN RETURN NIL END; NEW(q); q.a := n; RETURN q END f;", "p := f(4); OUT(p.a); ASSERT(f(0) = NIL); ASSERT(f(1) IS Q); ASSERT(~(f(0) IS P))", "0 14 4"},
	})
}

// G2: MaxCalls calls may go on, a deed's own among them; ticks are asked first.
func TestCalls(t *testing.T) {
	deep := "MODULE M; VAR n: INTEGER; PROCEDURE f(x: INTEGER); BEGIN n := x; IF x > 1 THEN f(x - 1) END END f; PROCEDURE p*; VAR x: INTEGER; BEGIN GET(x); f(x); OUT(n) END p; PROCEDURE show*; BEGIN OUT(n) END show; "
	runs(t, []string{deep + "BEGIN f(40); OUT(n) END M."}, 0, []api.Deed{do("p", 39), do("p", 40), do("show"), do("p", 39)}, "0 0 1|0 0 1|6 0|0 0 2|0 0 1")
	runs(t, []string{deep + "BEGIN f(41); OUT(n) END M."}, 0, []api.Deed{do("show")}, "6 0|0 0 2")
	doesAll(t, []act{
		{"VAR n: INTEGER; PROCEDURE f; BEGIN n := n + 1 END f;", "f; f; f; WHILE n < 1000 DO f END; OUT(n)", "0 0 1000"},
		{"VAR n: INTEGER; PROCEDURE f(x: INTEGER); BEGIN IF x > 0 THEN f(x - 1) ELSE n := 0; WHILE n < 1960 DO n := n + 1 END; OUT(n); f(0) END END f;", "f(39)", "7 0 1960"},
		{"VAR n: INTEGER; PROCEDURE f(x: INTEGER); BEGIN IF x > 0 THEN f(x - 1) ELSE n := 0; WHILE n < 1959 DO n := n + 1 END; OUT(n); f(0) END END f;", "f(39)", "6 0 1959"},
	})
}

// G2: MaxTicks calls and rounds; WHILE asks its condition ahead of a tick, REPEAT behind it.
func TestTicks(t *testing.T) {
	doesAll(t, []act{
		{"VAR n: INTEGER;", "WHILE n < 2000 DO n := n + 1 END; OUT(n)", "0 0 2000"},
		{"VAR n: INTEGER;", "WHILE n < 2000 DO n := n + 1 END; OUT(n); WHILE n < 2000 DO END; OUT(1); REPEAT OUT(2) UNTIL TRUE", "7 0 2000 1"},
		{"VAR n: INTEGER; PROCEDURE f(): BOOLEAN; BEGIN OUT(5); RETURN TRUE END f;", "WHILE n < 1999 DO n := n + 1 END; WHILE f() DO OUT(1) END", "7 0 5"},
		{"VAR n: INTEGER;", "REPEAT n := n + 1 UNTIL n = 2000; OUT(n)", "0 0 2000"},
		{"VAR n: INTEGER;", "REPEAT n := n + 1; IF n > 2000 THEN OUT(n) END UNTIL n = 2001; OUT(n)", "7 0"},
		{"VAR n: INTEGER; PROCEDURE f; BEGIN n := n + 1 END f;", "REPEAT f UNTIL n = 1000; OUT(n); f; OUT(n)", "7 0 1000"},
		{"VAR n: INTEGER; PROCEDURE f; BEGIN OUT(n) END f;", "WHILE n < 1999 DO n := n + 1 END; f; f", "7 0 1999"},
		{"", "WHILE TRUE DO END", "7 0"},
		{"", "REPEAT UNTIL FALSE", "7 0"},
	})
	texts := []string{"MODULE M; VAR n: INTEGER; PROCEDURE p*; BEGIN GET(n); WHILE n > 0 DO n := n - 1 END; OUT(n) END p; BEGIN WHILE n < 2000 DO n := n + 1 END END M."}
	runs(t, texts, 0, []api.Deed{do("p", 1999), do("p", 2000), do("p", 1999)}, "0 0|0 0 0|7 0|0 0 0")
}
