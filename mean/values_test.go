package mean_test

import (
	"fmt"
	"math/rand"
	"strings"
	"testing"

	"oberlin/api"
)

// G3: numbers come round; quotients are rounded down; a divisor of 0 or less is a trap.
func TestNumbers(t *testing.T) {
	doesAll(t, []act{
		{"", "OUT(2147483647 + 1); OUT(-2147483647 - 2); OUT(65536 * 65536); OUT(65536 * 32768); OUT(2147483647 * 2147483647)", "0 0 -2147483648 2147483647 0 -2147483648 1"},
		{"VAR i: INTEGER;", "i := -2147483647 - 1; OUT(-i); OUT(i - 1); OUT(i * (-1)); OUT(i DIV 1); OUT(i MOD 1); OUT(i DIV 2147483647); OUT(i MOD 2147483647)", "0 0 -2147483648 2147483647 -2147483648 -2147483648 0 -2 2147483646"},
		{"", "OUT(7 DIV 2); OUT(7 MOD 2); OUT((-7) DIV 2); OUT((-7) MOD 2); OUT((-8) DIV 4); OUT((-8) MOD 4); OUT(0 DIV 5); OUT(0 MOD 5); OUT((-1) DIV 5); OUT((-1) MOD 5)", "0 0 3 1 -4 1 -2 0 0 0 -1 4"},
		{"", "OUT(1); OUT(1 DIV 0)", "4 0 1"}, {"", "OUT(1 MOD 0)", "4 0"}, {"", "OUT(6 DIV (-3))", "4 0"}, {"", "OUT(6 MOD (-1))", "4 0"}, {"", "OUT(0 DIV 0)", "4 0"},
		{"", "OUT(-3); OUT(-(1 + 2)); OUT(1 - 2 - 3); OUT(2 + 3 * 4); OUT(-2 * 3)", "0 0 -3 -3 -4 14 -6"},
		{"CONST c = 5; d = -c; e = 2147483647 + 1;", "OUT(c); OUT(d); OUT(e); OUT(c * d)", "0 0 5 -5 -2147483648 -25"},
	})
}

// G3: relations, and what holds of truths and pointers.
func TestRelations(t *testing.T) {
	doesAll(t, []act{
		{"", "ASSERT(1 < 2); ASSERT(~(2 < 2)); ASSERT(~(3 < 2)); ASSERT(-2147483647 < 2147483647)", "0 0"},
		{"", "ASSERT(1 <= 2); ASSERT(2 <= 2); ASSERT(~(3 <= 2))", "0 0"},
		{"", "ASSERT(2 > 1); ASSERT(~(2 > 2)); ASSERT(~(2 > 3))", "0 0"},
		{"", "ASSERT(2 >= 1); ASSERT(2 >= 2); ASSERT(~(2 >= 3))", "0 0"},
		{"", "ASSERT(2 = 2); ASSERT(~(2 = 3)); ASSERT(2 # 3); ASSERT(~(2 # 2))", "0 0"},
		{"CONST yes = TRUE; no = ~yes;", "ASSERT(TRUE = yes); ASSERT(yes # no); ASSERT(~(yes = FALSE)); ASSERT(~(no # FALSE)); ASSERT(~no & yes)", "0 0"},
		{kinds + "VAR p: P; q: P; s: Q;", "ASSERT((p = NIL) & (NIL = s) & (p = q) & ~(p # s)); NEW(p); ASSERT((p # NIL) & (p # q)); q := p; ASSERT((p = q) & ~(p # q)); NEW(q); ASSERT(~(p = q)); NEW(s); p := s; ASSERT((p = s) & (s = p))", "0 13"},
		{"TYPE E = RECORD END; P = POINTER TO E; VAR p: P; q: P;", "NEW(p); NEW(q); ASSERT(p # q); q := p; ASSERT(p = q)", "0 2"},
	})
}

// G3: the right part of & and OR is worked out only if the left one doesn't tell it.
func TestRightPart(t *testing.T) {
	ask := "VAR i: INTEGER; PROCEDURE f(n: INTEGER; b: BOOLEAN): BOOLEAN; BEGIN OUT(n); RETURN b END f; PROCEDURE g(b: BOOLEAN); BEGIN IF b THEN OUT(8) ELSE OUT(9) END END g;"
	doesAll(t, []act{
		{ask, "g(f(1, FALSE) & f(2, TRUE)); g(f(1, TRUE) & f(2, FALSE)); g(f(1, TRUE) & f(2, TRUE))", "0 0 1 9 1 2 9 1 2 8"},
		{ask, "g(f(1, FALSE) OR f(2, TRUE)); g(f(1, TRUE) OR f(2, FALSE)); g(f(1, FALSE) OR f(2, FALSE))", "0 0 1 2 8 1 8 1 2 9"},
		{ask, "g(FALSE & (1 DIV i = 0)); g(TRUE OR (1 DIV i = 0)); g((1 DIV i = 0) & FALSE)", "4 0 9 8"},
		{ask, "g(f(1, FALSE) = f(2, FALSE)); g(f(1, FALSE) # f(2, TRUE))", "0 0 1 2 8 1 2 8"},
	})
}

// chain: records that extend each other, and pointers to them.
const chain = "TYPE A = RECORD a: INTEGER; END; B = RECORD (A) b: INTEGER; END; C = RECORD (B) c: INTEGER; END; D = RECORD (A) d: INTEGER; END; PA = POINTER TO A; PB = POINTER TO B; PC = POINTER TO C; PD = POINTER TO D; PE = POINTER TO B; VAR a: PA; b: PB; c: PC; d: PD; e: PE; "

// G3: what a pointer points to, as it was made.
func TestGuards(t *testing.T) {
	doesAll(t, []act{
		{chain, "ASSERT(~(a IS PA)); ASSERT(~(a IS PC))", "0 0"},
		{chain, "NEW(a); ASSERT((a IS PA) & ~(a IS PB) & ~(a IS PC) & ~(a IS PD))", "0 2"},
		{chain, "NEW(b); a := b; ASSERT((a IS PA) & (a IS PB) & (a IS PE) & ~(a IS PC) & ~(a IS PD) & (b IS PE) & ~(b IS PC))", "0 3"},
		{chain, "NEW(c); a := c; ASSERT((a IS PA) & (a IS PB) & (a IS PC) & ~(a IS PD)); b := c; ASSERT(b IS PC); e := b; ASSERT((e IS PC) & (e = a))", "0 4"},
		{chain, "NEW(c); a := c; c.c := 4; a{PB}.b := 5; OUT(a{PC}.c); OUT(a{PB}{PC}.b); b := a{PC}; OUT(b.b); a{PC}.a := 6; OUT(a.a); ASSERT(a{PC} = b)", "0 4 4 5 5 6"},
		{chain, "OUT(1); OUT(a{PB}.b)", "1 0 1"}, {chain, "b := a{PB}", "1 0"}, {chain, "a := a{PA}", "1 0"},
		{chain, "NEW(a); OUT(a{PB}.b)", "3 2"}, {chain, "NEW(b); a := b; d := a{PD}", "3 3"}, {chain, "NEW(b); a := b{PC}", "3 3"},
		{chain, "NEW(b); a := b; OUT(a{PE}^.b); a{PB}^.b := 2; OUT(a{PE}.b)", "0 3 0 2"},
		{chain + "PROCEDURE f(VAR x: A); BEGIN x.a := 3 END f;", "NEW(c); f(c^); OUT(c.a); a := c; f(a{PB}^); f(d^)", "1 4 3"},
	})
}

// G3: NIL has nothing; places are 0 to one less than there are.
func TestNothingThere(t *testing.T) {
	doesAll(t, []act{
		{kinds + "VAR p: P;", "OUT(1); OUT(p.a)", "1 0 1"}, {kinds + "VAR p: P;", "p.a := 1", "1 0"}, {kinds + "VAR p: P; r: R;", "r := p^", "1 0"}, {kinds + "VAR p: P; r: R;", "p^ := r", "1 0"},
		{kinds + "VAR q: Q;", "NEW(q); OUT(q.p.a)", "1 7"}, {kinds + "VAR q: Q;", "NEW(q.p)", "1 0"}, {kinds + "VAR q: Q;", "GET(q.a)", "1 0"},
		{"TYPE E = RECORD END; P = POINTER TO E; VAR p: P; e: E;", "OUT(1); e := p^", "1 0 1"},
		{kinds + "VAR p: P; PROCEDURE f(VAR x: R); BEGIN OUT(2) END f;", "OUT(1); f(p^)", "1 0 1"},
		{kinds + "VAR r: Row;", "r[0] := 1; r[2] := 3; OUT(r[0] + r[2]); OUT(r[3])", "2 0 4"}, {kinds + "VAR r: Row;", "r[-1] := 1", "2 0"}, {kinds + "VAR r: Rows;", "r[2][0] := 1", "2 0"}, {kinds + "VAR r: Rows;", "r[1][3] := 1", "2 0"},
		{kinds + "VAR r: Row;", "OUT(r[2147483647])", "2 0"}, {kinds + "VAR r: Row;", "OUT(r[-2147483647 - 1])", "2 0"},
		{kinds + "VAR r: Rows;", "r[0][2] := 7; r[1][0] := 8; OUT(r[0][2]); OUT(r[1][0]); OUT(r[1][2])", "0 0 7 8 0"},
		{"TYPE E = RECORD END; L = ARRAY 2 OF E; VAR l: L; e: E;", "e := l[1]; OUT(1); e := l[2]", "2 0 1"},
	})
}

// G3, G4: numbers drawn, with values that the test works out by itself.
func TestDrawnNumbers(t *testing.T) {
	r := rand.New(rand.NewSource(7))
	for range 300 {
		var acts, want strings.Builder
		trap := api.Ended
		for range 8 {
			text, v, ok := sum(r, 4)
			fmt.Fprintf(&acts, "OUT(%s);", text)
			if !ok {
				trap = api.TrapDiv
				break
			}
			fmt.Fprintf(&want, " %d", v)
		}
		does(t, "", acts.String(), fmt.Sprint(trap, " 0")+want.String())
	}
}

// sum draws an expression, with its value, if it has one.
func sum(r *rand.Rand, deep int) (text string, v int64, ok bool) {
	if deep == 0 || r.Intn(5) == 0 {
		v = []int64{int64(r.Intn(10)), int64(r.Int31()), 1<<31 - 1}[r.Intn(3)]
		return fmt.Sprint(v), v, true
	}
	a, x, ok := sum(r, deep-1)
	if r.Intn(6) == 0 {
		return "(-" + a + ")", round(-x), ok
	}
	b, y, okToo := sum(r, deep-1)
	sign := []string{"+", "-", "*", "DIV", "MOD"}[r.Intn(5)]
	text, ok = "("+a+" "+sign+" "+b+")", ok && okToo
	switch sign {
	case "+":
		v = x + y
	case "-":
		v = x - y
	case "*":
		v = x * y
	default:
		if y <= 0 {
			return text, 0, false
		}
		left := (x%y + y) % y
		if v = left; sign == "DIV" {
			v = (x - left) / y
		}
	}
	return text, round(v), ok
}

// round brings a number to 32 bits.
func round(v int64) int64 {
	v = ((v % (1 << 32)) + 1<<32) % (1 << 32)
	if v >= 1<<31 {
		v -= 1 << 32
	}
	return v
}
