package mean_test

import "testing"

// teller: functions that put out when they are worked out.
const teller = kinds + "VAR i: INTEGER; j: INTEGER; p: Q; q: Q; r: Row; s: Row; PROCEDURE t(n: INTEGER; v: INTEGER): INTEGER; BEGIN OUT(n); RETURN v END t; PROCEDURE set(v: INTEGER): INTEGER; BEGIN i := v; RETURN v END set; PROCEDURE move(): INTEGER; BEGIN p := q; RETURN 2 END move; PROCEDURE three(a: INTEGER; VAR b: INTEGER; c: INTEGER); BEGIN OUT(a); OUT(b); OUT(c); b := 90 END three; "

// G4: all is worked out from the left.
func TestFromTheLeft(t *testing.T) {
	doesAll(t, []act{
		{teller, "i := t(1, 4) + t(2, 5) * t(3, 6); OUT(i)", "0 0 1 2 3 34"},
		{teller, "i := 1; OUT(i + set(5) + i)", "0 0 11"}, {teller, "i := 1; OUT(i * 10 - set(5))", "0 0 5"},
		{teller, "i := 3; ASSERT(i = set(3)); ASSERT(i # set(4)); ASSERT(i < set(5)); ASSERT(set(1) = i)", "0 0"},
		{teller, "r[t(1, 0)] := t(2, 7); OUT(r[0])", "0 0 1 2 7"},
		{teller, "i := 0; r[i] := set(2); OUT(r[0]); OUT(r[2])", "0 0 2 0"},
		{teller, "r[t(1, 3)] := t(2, 7)", "2 0 1"}, {teller, "p.a := t(2, 7)", "1 0"}, {teller, "p.c[t(1, 1)] := t(2, 7)", "1 0"},
		{teller, "NEW(p); NEW(q); p.a := move(); OUT(p.a); OUT(q.a)", "0 14 0 0"},
		{teller, "NEW(p); NEW(q); p.c[move()] := 5; OUT(p.c[2]); p.c[1] := 6; OUT(q.c[1])", "0 14 0 6"},
		{teller, "NEW(p); NEW(q); p.a := 1; q.a := 3; OUT(p.a * 10 + move() * p.a)", "0 14 16"},
		{teller, "i := 4; three(i, i, set(6)); OUT(i)", "0 0 4 6 6 90"},
		{teller, "i := 1; r[1] := 8; r[2] := 9; three(0, r[i], set(2)); OUT(r[1]); OUT(r[2])", "0 0 0 8 2 90 9"},
		{teller, "three(t(1, 5), r[t(2, 2)], t(3, 6))", "0 0 1 2 3 5 0 6"}, {teller, "three(t(1, 5), r[t(2, 3)], t(3, 6))", "2 0 1 2"},
		{teller, "OUT(1 DIV t(5, 0) + t(6, 1))", "4 0 5"}, {teller, "OUT(t(5, 1) DIV (t(6, 1) - 1))", "4 0 5 6"},
		{teller, "i := 1; GET(r[set(2)]); OUT(i)", "0 0 2"}, {teller, "NEW(p); NEW(p.p); p.p.a := t(1, 4); OUT(p.p.a)", "0 10 1 4"},
	})
}

// G4: what puts out a number puts out, ahead of it, what comes of working it out.
func TestOutWithinOut(t *testing.T) {
	within := "VAR i: INTEGER; PROCEDURE F(): INTEGER; BEGIN OUT(1); RETURN 2 END F; PROCEDURE down(n: INTEGER): INTEGER; BEGIN IF n > 0 THEN OUT(down(n - 1)) END; RETURN n END down; PROCEDURE many(n: INTEGER): INTEGER; BEGIN WHILE n > 0 DO OUT(n); n := n - 1 END; RETURN 0 END many; PROCEDURE ends(): INTEGER; BEGIN OUT(3); ASSERT(FALSE); RETURN 4 END ends; "
	doesAll(t, []act{
		{within, "OUT(F())", "0 0 1 2"}, {within, "OUT(9); OUT(F()); OUT(8)", "0 0 9 1 2 8"}, {within, "OUT(F() + F() * F())", "0 0 1 1 1 6"}, {within, "OUT(-F())", "0 0 1 -2"},
		{within, "OUT(down(3))", "0 0 0 1 2 3"}, {within, "OUT(down(1) + down(2))", "0 0 0 0 1 3"}, {within, "OUT(many(9)); OUT(many(1))", "0 0 9 8 7 6 5 4 3 2 1 0 1 0"},
		{within, "OUT(5); OUT(ends())", "5 0 5 3"}, {within, "OUT(F() DIV many(2))", "4 0 1 2 1"},
	})
}

// G4: what has more words is copied, as it is then, so many words as the left one's type has.
func TestCopies(t *testing.T) {
	doesAll(t, []act{
		{teller, "r[1] := 4; s := r; r[1] := 5; OUT(s[1]); OUT(r[1]); s := s; OUT(s[1])", "0 0 4 5 4"},
		{kinds + "VAR r: Rows; x: Row;", "r[1][2] := 3; r[0] := r[1]; OUT(r[0][2]); x := r[0]; r[1] := x; x[2] := 1; OUT(r[1][2])", "0 0 3 3"},
		{kinds + "VAR a: S; b: S;", "a.a := 1; a.c[2] := 2; NEW(a.p); b := a; OUT(b.a); OUT(b.c[2]); b.p.a := 9; OUT(a.p.a); b.a := 5; OUT(a.a)", "0 3 1 2 9 1"},
		{kinds + "VAR p: Q; q: Q; s: S;", "NEW(p); NEW(q); p.c[0] := 7; q^ := p^; OUT(q.c[0]); ASSERT(p # q); q.c[0] := 8; OUT(p.c[0]); s := q^; OUT(s.c[0]); s.a := 4; p^ := s; OUT(p.a)", "0 14 7 7 8 4"},
		{chain + "PROCEDURE copy(VAR x: A; VAR y: A); BEGIN x := y END copy;", "NEW(c); NEW(d); c.a := 1; c.b := 2; c.c := 3; d.a := 4; d.d := 5; copy(c^, d^); OUT(c.a); OUT(c.b); OUT(c.c); OUT(d.d)", "0 7 4 2 3 5"},
		{chain, "NEW(c); NEW(b); c.c := 3; c.b := 2; b.b := 7; e := c; e^ := b^; OUT(c.b); OUT(c.c); ASSERT(e IS PC); a := c; OUT(a{PB}.b)", "0 7 7 3 7"},
		{"TYPE E = RECORD END; F = RECORD (E) x: INTEGER; END; VAR e: E; f: F; PROCEDURE copy(VAR x: E; VAR y: E); BEGIN x := y; y := x END copy;", "f.x := 4; copy(f, e); OUT(f.x); copy(e, f); OUT(f.x)", "0 0 4 4"},
		{"TYPE O = RECORD x: INTEGER; END; VAR a: O; b: O;", "a.x := 4; b := a; a.x := 5; OUT(b.x)", "0 0 4"},
		{teller, "NEW(p); NEW(q); p.c[0] := 1; q.c[0] := 2; r := p.c; OUT(r[0]); p.c := r; r[move()] := 0; r := p.c; OUT(r[0])", "0 14 1 2"},
		{"TYPE Row = ARRAY 3 OF INTEGER; Rows = ARRAY 2 OF Row; VAR r: Rows; i: INTEGER; PROCEDURE set(): INTEGER; BEGIN i := 1; RETURN 0 END set;", "r[1][0] := 5; r[i] := r[set() + 1]; OUT(r[0][0]); OUT(i)", "0 0 5 1"},
	})
}

// G4: the conditions in turn, up to the first that is TRUE.
func TestChoices(t *testing.T) {
	choose := "VAR i: INTEGER; PROCEDURE is(n: INTEGER): BOOLEAN; BEGIN OUT(n); RETURN i = n END is; PROCEDURE c(n: INTEGER); BEGIN i := n; IF is(1) THEN OUT(10) ELSIF is(2) THEN OUT(20) ELSIF is(3) THEN OUT(30) ELSE OUT(40) END; IF is(1) THEN i := 2 ELSIF is(2) THEN OUT(50) END END c;"
	doesAll(t, []act{
		{choose, "c(1)", "0 0 1 10 1"}, {choose, "c(2)", "0 0 1 2 20 1 2 50"}, {choose, "c(3)", "0 0 1 2 3 30 1 2"}, {choose, "c(4)", "0 0 1 2 3 40 1 2"},
		{"VAR i: INTEGER;", "WHILE i < 3 DO OUT(i); i := i + 1 END; REPEAT OUT(i); i := i - 1 UNTIL i <= 1; WHILE i > 1 DO OUT(9) END; REPEAT OUT(7) UNTIL TRUE", "0 0 0 1 2 3 2 7"},
		{"", "IF FALSE THEN OUT(1) END; IF TRUE THEN END; ; OUT(2)", "0 0 2"},
	})
}

// G4: ASSERT, and what ends a module's acts.
func TestAsserts(t *testing.T) {
	doesAll(t, []act{
		{"", "ASSERT(TRUE); OUT(1); ASSERT(1 > 2); OUT(2)", "5 0 1"}, {"VAR b: BOOLEAN;", "ASSERT(b)", "5 0"}, {"", "ASSERT(1 DIV 0 = 0)", "4 0"},
		{"", "OUT(1); RETURN; OUT(2)", "0 0 1"}, {"VAR i: INTEGER;", "WHILE TRUE DO i := i + 1; IF i = 3 THEN OUT(i); RETURN END END", "0 0 3"},
	})
}

// D6: names of a procedure hide those of its module, and imports.
func TestHiding(t *testing.T) {
	texts := []string{
		"MODULE A; VAR x*: INTEGER; BEGIN x := 5 END A.",
		"MODULE M; IMPORT A; CONST c = 3; TYPE R = RECORD x: INTEGER; END; VAR v: INTEGER; PROCEDURE f(c: INTEGER); VAR A: R; v: INTEGER; BEGIN A.x := c; v := A.x + 1; OUT(v) END f; PROCEDURE g(f: INTEGER); BEGIN OUT(f) END g; BEGIN f(7); g(8); OUT(A.x + c + v) END M.",
	}
	runs(t, texts, 0, nil, "0 0|0 0 8 8 8")
}
