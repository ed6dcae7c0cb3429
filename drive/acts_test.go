package drive_test

import (
	"strconv"
	"strings"
	"testing"

	"oberlin/api"
)

// kinds of variables, for the tests.
const kinds = "TYPE R = RECORD a: INTEGER; b: BOOLEAN; END; P = POINTER TO R; Row = ARRAY 3 OF INTEGER; Rows = ARRAY 2 OF Row; S = RECORD (R) c: Row; p: P; END; Q = POINTER TO S; E = RECORD END; PE = POINTER TO E; Es = ARRAY 2 OF E; "

// chain: records that extend each other, and pointers to them.
const chain = "TYPE A = RECORD a: INTEGER; END; B = RECORD (A) b: INTEGER; END; C = RECORD (B) c: INTEGER; END; D = RECORD (A) d: INTEGER; END; PA = POINTER TO A; PB = POINTER TO B; PC = POINTER TO C; PD = POINTER TO D; PE = POINTER TO B; VAR a: PA; b: PB; c: PC; d: PD; e: PE; "

// teller: functions that put out, or change something, when they are worked out.
const teller = kinds + "VAR i: INTEGER; b: BOOLEAN; p: Q; q: Q; r: Row; s: Row; PROCEDURE t(n: INTEGER; v: INTEGER): INTEGER; BEGIN OUT(n); RETURN v END t; PROCEDURE is(n: INTEGER; b: BOOLEAN): BOOLEAN; BEGIN OUT(n); RETURN b END is; PROCEDURE set(v: INTEGER): INTEGER; BEGIN i := v; RETURN v END set; PROCEDURE move(): INTEGER; BEGIN p := q; RETURN 2 END move; PROCEDURE three(a: INTEGER; VAR b: INTEGER; c: INTEGER); BEGIN OUT(a); OUT(b); OUT(c); b := 90 END three; PROCEDURE say(b: BOOLEAN); BEGIN IF b THEN OUT(8) ELSE OUT(9) END END say; "

// K1, G3: numbers come round; quotients are rounded down; relations.
func TestNumbers(t *testing.T) {
	doesAll(t, []act{
		{"", "OUT(2147483647 + 1); OUT(-2147483647 - 2); OUT(65536 * 65536); OUT(65536 * 32768); OUT(2147483647 * 2147483647)", "0 0 -2147483648 2147483647 0 -2147483648 1"},
		{"VAR i: INTEGER;", "i := -2147483647 - 1; OUT(-i); OUT(i - 1); OUT(i * (-1)); OUT(i DIV 1); OUT(i MOD 1); OUT(i DIV 2147483647); OUT(i MOD 2147483647)", "0 0 -2147483648 2147483647 -2147483648 -2147483648 0 -2 2147483646"},
		{"", "OUT(7 DIV 2); OUT(7 MOD 2); OUT((-7) DIV 2); OUT((-7) MOD 2); OUT((-8) DIV 4); OUT((-8) MOD 4); OUT(0 DIV 5); OUT((-1) DIV 5); OUT((-1) MOD 5)", "0 0 3 1 -4 1 -2 0 0 -1 4"},
		{"CONST c = 5; d = -c; e = 2147483647 + 1; no = c = d;", "OUT(c); OUT(d); OUT(e); OUT(c * d - 3 - 1); ASSERT(no = FALSE); ASSERT(~no)", "0 0 5 -5 -2147483648 -29"},
		{"", "ASSERT(1 < 2); ASSERT(~(2 < 2)); ASSERT(~(3 < 2)); ASSERT(1 <= 2); ASSERT(2 <= 2); ASSERT(~(3 <= 2)); ASSERT(-2147483647 < 2147483647)", "0 0"},
		{"", "ASSERT(2 > 1); ASSERT(~(2 > 2)); ASSERT(~(2 > 3)); ASSERT(2 >= 1); ASSERT(2 >= 2); ASSERT(~(2 >= 3))", "0 0"},
		{"", "ASSERT(2 = 2); ASSERT(~(2 = 3)); ASSERT(2 # 3); ASSERT(~(2 # 2)); ASSERT(TRUE # FALSE); ASSERT(~(TRUE = FALSE))", "0 0"},
		{kinds + "VAR p: P; q: P; s: Q;", "ASSERT((p = NIL) & (NIL = s) & (p = q) & ~(p # s)); NEW(p); ASSERT((p # NIL) & (p # q)); q := p; ASSERT((p = q) & ~(p # q)); NEW(q); ASSERT(~(p = q)); NEW(s); p := s; ASSERT((p = s) & (s = p))", "0 13"},
		{kinds + "VAR p: PE; q: PE;", "NEW(p); NEW(q); ASSERT(p # q); q := p; ASSERT(p = q)", "0 2"},
	})
}

// K1, G3, G4: all from the left; the right part of & and OR only if the left one doesn't tell it.
func TestFromTheLeft(t *testing.T) {
	doesAll(t, []act{
		{teller, "i := t(1, 4) + t(2, 5) * t(3, 6); OUT(i)", "0 0 1 2 3 34"},
		{teller, "i := 1; OUT(i + set(5) + i); OUT(i * 10 - set(7)); ASSERT(i # set(4))", "0 0 11 43"},
		{teller, "say(is(1, FALSE) & is(2, TRUE)); say(is(1, TRUE) & is(2, FALSE)); say(is(1, TRUE) & is(2, TRUE))", "0 0 1 9 1 2 9 1 2 8"},
		{teller, "say(is(1, FALSE) OR is(2, TRUE)); say(is(1, TRUE) OR is(2, FALSE)); say(is(1, FALSE) OR is(2, FALSE))", "0 0 1 2 8 1 8 1 2 9"},
		{teller, "say(FALSE & (1 DIV i = 0) OR TRUE); say(~(TRUE OR (1 DIV i = 0)) & is(3, TRUE)); say((1 DIV i = 0) & FALSE)", "4 0 8 9"},
		{teller, "r[t(1, 0)] := t(2, 7); OUT(r[0]); i := 0; r[i] := set(2); OUT(r[0]); OUT(r[2])", "0 0 1 2 7 2 0"},
		{teller, "NEW(p); NEW(q); p.a := move(); OUT(p.a); OUT(q.a)", "0 14 0 0"},
		{teller, "NEW(p); NEW(q); p.c[move()] := 5; OUT(p.c[2]); p.c[1] := 6; OUT(q.c[1])", "0 14 0 6"},
		{teller, "i := 4; three(i, i, set(6)); OUT(i); i := 1; r[1] := 8; r[2] := 9; three(0, r[i], set(2)); OUT(r[1]); OUT(r[2])", "0 0 4 6 6 90 0 8 2 90 9"},
		{teller, "three(t(1, 5), r[t(2, 2)], t(3, 6)); OUT(t(4, t(5, 6)))", "0 0 1 2 3 5 0 6 5 4 6"},
		{teller, "i := 1; GET(r[set(2)]); OUT(i); NEW(p); NEW(p.p); p.p.a := t(1, 4); OUT(p.p.a)", "0 10 2 1 4"},
	})
}

// K1, G4: what has more words is copied, as it is then, so many words as the left one's type has.
func TestCopies(t *testing.T) {
	doesAll(t, []act{
		{teller, "r[1] := 4; s := r; r[1] := 5; OUT(s[1]); OUT(r[1]); s := s; OUT(s[1])", "0 0 4 5 4"},
		{kinds + "VAR r: Rows; x: Row; y: INTEGER;", "y := 6; r[1][2] := 3; r[0] := r[1]; OUT(r[0][2]); x := r[0]; r[1] := x; x[2] := 1; OUT(r[1][2]); OUT(y)", "0 0 3 3 6"},
		{kinds + "VAR a: S; b: S;", "a.a := 1; a.c[2] := 2; NEW(a.p); b := a; OUT(b.a); OUT(b.c[2]); b.p.a := 9; OUT(a.p.a); b.a := 5; OUT(a.a)", "0 3 1 2 9 1"},
		{kinds + "VAR p: Q; q: Q; s: S;", "NEW(p); NEW(q); p.c[0] := 7; q^ := p^; OUT(q.c[0]); ASSERT(p # q); q.c[0] := 8; OUT(p.c[0]); s := q^; OUT(s.c[0]); s.a := 4; p^ := s; OUT(p.a)", "0 14 7 7 8 4"},
		{chain + "PROCEDURE copy(VAR x: A; VAR y: A); BEGIN x := y END copy;", "NEW(c); NEW(d); c.a := 1; c.b := 2; c.c := 3; d.a := 4; d.d := 5; copy(c^, d^); OUT(c.a); OUT(c.b); OUT(c.c); OUT(d.d)", "0 7 4 2 3 5"},
		{chain, "NEW(c); NEW(b); c.c := 3; c.b := 2; b.b := 7; e := c; e^ := b^; OUT(c.b); OUT(c.c); ASSERT(e IS PC); a := c; OUT(a{PB}.b)", "0 7 7 3 7"},
		{kinds + "VAR e: E; es: Es; p: PE; PROCEDURE f(VAR x: E; VAR y: E); VAR z: E; BEGIN x := y; z := x; y := z END f;", "es[1] := e; e := es[0]; NEW(p); p^ := es[1]; e := p^; f(e, p^); f(es[1], e); OUT(1); NEW(p)", "0 2 1"},
	})
}

// K1, G2: at first all is 0, FALSE, NIL, what each call has of its own, too, though others had it ahead.
func TestAtFirst(t *testing.T) {
	doesAll(t, []act{
		{kinds + "VAR i: INTEGER; b: BOOLEAN; p: P; r: Rows; s: S;", "OUT(i); ASSERT(~b); ASSERT(p = NIL); OUT(r[1][2]); OUT(s.a); ASSERT(~s.b & (s.p = NIL)); OUT(s.c[0])", "0 0 0 0 0 0"},
		{kinds + "PROCEDURE f(n: INTEGER); VAR i: INTEGER; b: BOOLEAN; p: P; s: S; BEGIN OUT(i); ASSERT(~b & (p = NIL)); OUT(s.c[2]); i := 5; b := TRUE; NEW(p); s.c[2] := 4; s.p := p; IF n > 0 THEN f(n - 1) END; OUT(i) END f;", "f(1); f(0)", "0 9 0 0 0 0 5 5 0 0 5"},
		{kinds + "PROCEDURE f(a: INTEGER; b: INTEGER); VAR c: INTEGER; BEGIN c := a * b; OUT(c) END f; PROCEDURE g; VAR c: Rows; d: P; BEGIN OUT(c[0][0]); OUT(c[1][2]); ASSERT(d = NIL) END g;", "f(7, 9); g", "0 0 63 0 0"},
		{kinds + "VAR p: Q;", "NEW(p); p.a := 3; p.c[1] := 4; NEW(p.p); NEW(p); OUT(p.a); OUT(p.c[1]); ASSERT(p.p = NIL)", "0 17 0 0"},
	})
}

// K1, G2: a VAR parameter is the very variable that is handed over, wherever it lies, by whatever calls it goes.
func TestParameters(t *testing.T) {
	doesAll(t, []act{
		{"VAR i: INTEGER; PROCEDURE f(x: INTEGER); BEGIN x := x + 1; OUT(x); OUT(i) END f;", "i := 4; f(i); OUT(i)", "0 0 5 4 4"},
		{"VAR i: INTEGER; PROCEDURE f(VAR x: INTEGER); BEGIN x := x + 1; OUT(i); i := 9; OUT(x) END f;", "i := 4; f(i); OUT(i)", "0 0 5 9 9"},
		{"VAR i: INTEGER; PROCEDURE g(VAR y: INTEGER; n: INTEGER); BEGIN y := y + n; IF n > 0 THEN g(y, n - 1) END END g; PROCEDURE f(VAR x: INTEGER); BEGIN g(x, 3) END f;", "f(i); OUT(i)", "0 0 6"},
		{"PROCEDURE g(VAR y: INTEGER); BEGIN y := 7 END g; PROCEDURE f(x: INTEGER; w: INTEGER); VAR z: INTEGER; BEGIN g(x); g(z); OUT(x); OUT(w); OUT(z) END f;", "f(1, 2)", "0 0 7 2 7"},
		{kinds + "VAR r: Rows; PROCEDURE f(VAR x: Row; VAR y: INTEGER); BEGIN x[0] := 5; y := x[0] + 1 END f;", "f(r[1], r[1][2]); OUT(r[0][0]); OUT(r[1][0]); OUT(r[1][2])", "0 0 0 5 6"},
		{kinds + "VAR p: P; PROCEDURE f(VAR x: P); BEGIN NEW(x); x.a := 3 END f; PROCEDURE g; VAR q: P; BEGIN f(q); OUT(q.a); p := q END g;", "f(p); OUT(p.a); g; OUT(p.a)", "0 6 3 3 3"},
		{kinds + "VAR p: Q; PROCEDURE f(VAR x: INTEGER); BEGIN p := NIL; x := 8; OUT(x) END f;", "NEW(p); f(p.c[1])", "0 7 8"},
		{kinds + "VAR s: S; q: Q; PROCEDURE f(VAR x: R); BEGIN x.a := 8; x.b := TRUE END f;", "s.c[0] := 2; f(s); OUT(s.a); ASSERT(s.b); OUT(s.c[0]); NEW(q); f(q^); OUT(q.a)", "0 7 8 2 8"},
	})
}

// K1, G2, G4: results, and what ends a call, or acts.
func TestResults(t *testing.T) {
	doesAll(t, []act{
		{"PROCEDURE f(n: INTEGER): INTEGER; BEGIN IF n < 2 THEN RETURN n END; RETURN f(n - 1) + f(n - 2) END f;", "OUT(f(10))", "0 0 55"},
		{"PROCEDURE f(): INTEGER; BEGIN RETURN 3; OUT(1) END f;", "OUT(10 - f() * f())", "0 0 1"},
		{"PROCEDURE f; BEGIN WHILE TRUE DO REPEAT IF TRUE THEN OUT(1); RETURN END; OUT(2) UNTIL FALSE END END f;", "f; OUT(3); RETURN; OUT(4)", "0 0 1 3"},
		{kinds + "VAR p: P; PROCEDURE f(n: INTEGER): P; VAR q: Q; BEGIN IF n = 0 THEN RETURN NIL END; NEW(q); q.a := n; RETURN q END f;", "p := f(4); OUT(p.a); ASSERT(f(0) = NIL); ASSERT(f(1) # f(2))", "0 21 4"},
		{"VAR i: INTEGER; PROCEDURE is(n: INTEGER): BOOLEAN; BEGIN OUT(n); RETURN i = n END is; PROCEDURE c(n: INTEGER); BEGIN i := n; IF is(1) THEN OUT(10) ELSIF is(2) THEN OUT(20) ELSE OUT(30) END; IF is(1) THEN i := 2 ELSIF is(2) THEN OUT(40) END END c;", "c(1); c(2); c(3)", "0 0 1 10 1 1 2 20 1 2 40 1 2 30 1 2"},
		{"VAR i: INTEGER;", "WHILE i < 3 DO OUT(i); i := i + 1 END; REPEAT OUT(i); i := i - 1 UNTIL i <= 1; WHILE i > 1 DO OUT(9) END; REPEAT OUT(7) UNTIL TRUE", "0 0 0 1 2 3 2 7"},
	})
}

// K1, G3: what a pointer points to, as it was made.
func TestGuards(t *testing.T) {
	doesAll(t, []act{
		{chain, "ASSERT(~(a IS PA)); ASSERT(~(a IS PC)); NEW(a); ASSERT((a IS PA) & ~(a IS PB) & ~(a IS PC) & ~(a IS PD))", "0 2"},
		{chain, "NEW(b); a := b; ASSERT((a IS PA) & (a IS PB) & (a IS PE) & ~(a IS PC) & ~(a IS PD) & (b IS PE) & ~(b IS PC))", "0 3"},
		{chain, "NEW(c); a := c; ASSERT((a IS PA) & (a IS PB) & (a IS PC) & ~(a IS PD)); b := c; ASSERT(b IS PC); e := b; ASSERT((e IS PC) & (e = a))", "0 4"},
		{chain, "NEW(c); a := c; c.c := 4; a{PB}.b := 5; OUT(a{PC}.c); OUT(a{PB}{PC}.b); b := a{PC}; OUT(b.b); a{PC}.a := 6; OUT(a.a); ASSERT(a{PC} = b)", "0 4 4 5 5 6"},
		{chain + "PROCEDURE f(VAR x: A); BEGIN x.a := 3 END f;", "NEW(c); f(c^); OUT(c.a); a := c; a.a := 1; f(a{PB}^); OUT(c.a); OUT(a{PE}^.b)", "0 4 3 3 0"},
	})
}

// K1, G2, G3: each trap, with what is put out and used ahead of it.
func TestTraps(t *testing.T) {
	doesAll(t, []act{
		{kinds + "VAR p: Q;", "NEW(p); OUT(1); OUT(p.p.a); OUT(2)", "1 7 1"}, {kinds + "VAR p: P;", "p.a := 1", "1 0"}, {kinds + "VAR p: P; r: R;", "OUT(3); r := p^", "1 0 3"}, {kinds + "VAR p: P; r: R;", "p^ := r", "1 0"},
		{kinds + "VAR q: Q;", "OUT(1); NEW(q.p)", "1 0 1"}, {kinds + "VAR q: Q;", "GET(q.a)", "1 0"}, {kinds + "VAR p: PE; e: E;", "OUT(1); e := p^", "1 0 1"}, {kinds + "VAR p: PE; e: E;", "p^ := e", "1 0"},
		{kinds + "VAR p: P; PROCEDURE f(VAR x: R); BEGIN OUT(2) END f;", "OUT(1); f(p^)", "1 0 1"}, {teller, "OUT(5); p.c[t(1, 1)] := t(2, 7)", "1 0 5"}, {teller, "p.a := t(2, 7)", "1 0"},
		{chain, "OUT(1); OUT(a{PB}.b)", "1 0 1"}, {chain, "b := a{PB}", "1 0"}, {chain, "a := a{PA}", "1 0"},
		{kinds + "VAR r: Row;", "r[0] := 1; r[2] := 3; OUT(r[0] + r[2]); OUT(r[3])", "2 0 4"}, {kinds + "VAR r: Row;", "r[-1] := 1", "2 0"}, {kinds + "VAR r: Rows;", "r[2][0] := 1", "2 0"}, {kinds + "VAR r: Rows;", "r[1][3] := 1", "2 0"},
		{kinds + "VAR r: Row;", "OUT(r[2147483647])", "2 0"}, {kinds + "VAR r: Row;", "OUT(r[-2147483647 - 1])", "2 0"}, {kinds + "VAR l: Es; e: E;", "e := l[1]; OUT(1); e := l[2]", "2 0 1"}, {kinds + "VAR p: Q;", "NEW(p); NEW(p.p); GET(p.c[3])", "2 10"},
		{teller, "r[t(1, 3)] := t(2, 7)", "2 0 1"}, {teller, "three(t(1, 5), r[t(2, 3)], t(3, 6))", "2 0 1 2"},
		{chain, "NEW(a); OUT(4); OUT(a{PB}.b)", "3 2 4"}, {chain, "NEW(b); a := b; d := a{PD}", "3 3"}, {chain, "NEW(b); a := b{PC}", "3 3"}, {chain, "NEW(d); a := d; a{PB}.b := 1", "3 3"},
		{"", "OUT(1); OUT(1 DIV 0)", "4 0 1"}, {"", "OUT(1 MOD 0)", "4 0"}, {"", "OUT(6 DIV (-3))", "4 0"}, {"", "OUT(6 MOD (-1))", "4 0"}, {"", "OUT(0 DIV 0)", "4 0"},
		{teller, "OUT(1 DIV t(5, 0) + t(6, 1))", "4 0 5"}, {teller, "OUT(t(5, 1) MOD (t(6, 1) - 1))", "4 0 5 6"},
		{"", "ASSERT(TRUE); OUT(1); ASSERT(1 > 2); OUT(2)", "5 0 1"}, {"VAR b: BOOLEAN;", "ASSERT(b)", "5 0"}, {teller, "ASSERT(is(3, FALSE)); OUT(4)", "5 0 3"},
		{teller, "OUT(1); WHILE TRUE DO END", "7 0 1"}, {teller, "NEW(p); REPEAT UNTIL FALSE", "7 7"},
		{kinds + "VAR p: P; PROCEDURE f(): P; BEGIN WHILE TRUE DO NEW(p) END; RETURN p END f;", "OUT(1); p := f()", "8 99 1"}, {kinds + "VAR p: P; q: Q;", "REPEAT NEW(q) UNTIL FALSE", "8 98"},
		{"PROCEDURE f(): INTEGER; BEGIN OUT(1) END f;", "OUT(2); OUT(f()); OUT(3)", "10 0 2 1"}, {"PROCEDURE f(n: INTEGER): INTEGER; BEGIN WHILE n > 0 DO IF n = 3 THEN RETURN 7 END; n := n - 1 END END f;", "OUT(f(5)); OUT(f(2))", "10 0 7"},
	})
}

// K1, G2: MaxCalls calls may go on, a deed's own among them; ticks are asked first.
func TestCalls(t *testing.T) {
	deep := "MODULE M; VAR n: INTEGER; PROCEDURE f(x: INTEGER); BEGIN n := x; IF x > 1 THEN f(x - 1) END END f; PROCEDURE p*; VAR x: INTEGER; BEGIN GET(x); f(x); OUT(n) END p; PROCEDURE show*; BEGIN OUT(n) END show; "
	runs(t, []string{deep + "BEGIN f(40); OUT(n) END M."}, 0, []api.Deed{do("p", 39), do("p", 40), do("show"), do("p", 39)}, "0 0 1|0 0 1|6 0|0 0 2|0 0 1")
	runs(t, []string{deep + "BEGIN OUT(5); f(41); OUT(n) END M."}, 0, []api.Deed{do("show")}, "6 0 5|0 0 2")
	late := "MODULE M; VAR n: INTEGER; PROCEDURE f(x: INTEGER); BEGIN IF x > 0 THEN f(x - 1) ELSE GET(n); WHILE n > 0 DO n := n - 1 END; OUT(n); f(0) END END f; PROCEDURE p*; BEGIN f(38) END p; END M."
	runs(t, []string{late}, 0, []api.Deed{do("p", 1960), do("p", 1959), do("p", 1961)}, "0 0|7 0 0|6 0 0|7 0")
}

// K1, G2: MaxTicks calls and rounds; WHILE asks its condition ahead of a tick, REPEAT behind it; each command begins anew.
func TestTicks(t *testing.T) {
	for _, x := range []act{
		{"", "WHILE n < 2000 DO n := n + 1 END; OUT(n)", "0 0 2000"},
		{"", "WHILE n < 2000 DO n := n + 1 END; OUT(n); WHILE n < 2000 DO END; OUT(1); REPEAT OUT(2) UNTIL TRUE", "7 0 2000 1"},
		{"PROCEDURE f(): BOOLEAN; BEGIN OUT(5); RETURN TRUE END f;", "WHILE n < 1999 DO n := n + 1 END; WHILE f() DO OUT(1) END", "7 0 5"},
		{"", "REPEAT n := n + 1 UNTIL n = 2000; OUT(n)", "0 0 2000"},
		{"", "REPEAT n := n + 1; IF n > 2000 THEN OUT(n) END UNTIL n = 2001; OUT(n)", "7 0"},
		{"PROCEDURE f; BEGIN n := n + 1 END f;", "REPEAT f UNTIL n = 1000; OUT(n); f; OUT(n)", "7 0 1000"},
		{"PROCEDURE f; BEGIN OUT(n) END f;", "WHILE n < 1999 DO n := n + 1 END; f; f", "7 0 1999"},
	} {
		runs(t, []string{"MODULE M; VAR n: INTEGER; " + x.declared + " BEGIN " + x.acts + " END M."}, 0, nil, x.want)
	}
	texts := []string{"MODULE M; VAR n: INTEGER; PROCEDURE p*; BEGIN GET(n); WHILE n > 0 DO n := n - 1 END; OUT(n) END p; BEGIN WHILE n < 2000 DO n := n + 1 END END M."}
	runs(t, texts, 0, []api.Deed{do("p", 1999), do("p", 2000), do("p", 1999)}, "0 0|0 0 0|7 0|0 0 0")
}

// K1, Z1: the most that a command may have of its own, in as many calls as may go on.
func TestDeepest(t *testing.T) {
	text := "MODULE M; TYPE Row = ARRAY 64 OF INTEGER; Rows = ARRAY 7 OF Row; Rest = ARRAY 62 OF INTEGER; VAR sum: INTEGER; PROCEDURE f(n: INTEGER; VAR x: Rows); VAR y: Rows; z: Rest; BEGIN y := x; y[6][63] := y[6][63] + n; z[61] := z[61] + 1; IF n > 1 THEN f(n - 1, y) ELSE sum := y[6][63] END; OUT(z[61] + y[6][63]) END f; PROCEDURE p*; VAR x: Rows; BEGIN f(39, x); OUT(sum) END p; END M."
	want := "0 0|0 0"
	for n := 1; n <= 39; n++ {
		want += " " + strconv.Itoa(1+(39*40-n*(n-1))/2)
	}
	runs(t, []string{text}, 0, []api.Deed{do("p"), do("p")}, want+" 780"+strings.TrimPrefix(want, "0 0")+" 780")
}
