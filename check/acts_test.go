package check_test

import (
	"testing"

	"oberlin/api"
)

// D6: assignments: a variable, then what it becomes.
func TestAssignments(t *testing.T) {
	tryActs(t, []trial{
		{api.OK, "i := 1; b := TRUE; p := NIL; p := big; p := op; p := p.n; op := p{OwnP}; r := p^; line := line; o := many[0]; many[1] := op^; p^ := r; Lib.i := i; Lib.p := op; Lib.row[1] := 2; op.mine := 1; p{OwnP}.mine := 2"},
		{api.ErrName, "@nix := 1"},
		{api.ErrName, "@nix := nox"},
		{api.ErrKind, "@five := 1"},
		{api.ErrKind, "@five := nix"},
		{api.ErrKind, "@on := 1"},
		{api.ErrKind, "@Nop := 1"},
		{api.ErrKind, "@Own := 1"},
		{api.ErrKind, "@Lib := 1"},
		{api.ErrKind, "@Lib.top := 1"},
		{api.ErrKind, "@Lib.Go := 1"},
		{api.ErrKind, "@Lib.R := 1"},
		{api.ErrName, "@Lib.low := 1"},
		{api.ErrName, "@Lib.q := NIL"},
		{api.ErrName, "@INTEGER := 1"},
		{api.ErrName, "@o.nix := nox"},
		{api.ErrName, "@p.h := 1"},
		{api.ErrType, "@five.x := 1"},
		{api.ErrType, "@i[0] := nix"},
		{api.ErrType, "@i^ := 1"},
		{api.ErrKind, "@Lib[0] := 1"},
		{api.ErrKind, "@p{Lib.BigP} := NIL"},
		{api.ErrKind, "@p{Lib.BigP} := nix"},
		{api.ErrType, "@p{FreeP} := NIL"},
		{api.ErrName, "p{@Nix} := NIL"},
		{api.ErrType, "@i{Lib.P} := NIL"},
		{api.ErrName, "i := @nix"},
		{api.ErrType, "i := @TRUE"},
		{api.ErrType, "i := @NIL"},
		{api.ErrType, "b := @1"},
		{api.ErrType, "b := @NIL"},
		{api.ErrType, "p := @1"},
		{api.ErrType, "p := @r"},
		{api.ErrType, "p := @fp"},
		{api.ErrType, "big := @p"},
		{api.ErrType, "big := @op"},
		{api.ErrType, "r := @o"},
		{api.ErrType, "o := @r"},
		{api.ErrType, "r := @NIL"},
		{api.ErrType, "r := @p"},
		{api.ErrType, "line := @twin"},
		{api.ErrType, "line := @1"},
		{api.ErrType, "line := @Lib.row"},
		{api.ErrType, "i := @line"},
	})
}

// D3: a type is the same as another one just if it is declared at the same place; pointers to one record take each other.
func TestSameTypes(t *testing.T) {
	twins := "TYPE A = RECORD x: INTEGER; END; B = RECORD x: INTEGER; END; P = POINTER TO A; Q = POINTER TO A; S = POINTER TO B; VAR a: A; b: B; p: P; q: Q; s: S; PROCEDURE f(VAR x: P); BEGIN END f; BEGIN "
	tryAll(t, []trial{
		{api.OK, twins + "a := a; b := b; p := q; q := p; ASSERT(p = q); p := q{P}; ASSERT(q IS P); f(p)"},
		{api.ErrType, twins + "a := @b"},
		{api.ErrType, twins + "p := @s"},
		{api.ErrType, twins + "ASSERT(@p = s)"},
		{api.ErrType, twins + "ASSERT(@p IS S)"},
		{api.ErrType, twins + "f(@q)"},
	})
	m := "MODULE M; TYPE T* = RECORD END; VAR t*: T; END M."
	n := "MODULE N; TYPE T* = RECORD END; VAR t*: T; END N."
	expect(t, api.ErrType, m, n, "MODULE U; IMPORT M, N; BEGIN M.t := @N.t END U.")
	expect(t, api.OK, m, n, "MODULE U; IMPORT M, N; VAR t: M.T; BEGIN M.t := t END U.")
}

// D3: a record extends what it is made from, and all that extends, across modules.
func TestExtending(t *testing.T) {
	a := "MODULE A; TYPE R* = RECORD END; P* = POINTER TO R; VAR p*: P; END A."
	b := "MODULE B; IMPORT A; TYPE S* = RECORD (A.R) END; Q* = POINTER TO S; VAR q*: Q; END B."
	c := "MODULE C; IMPORT A, B; TYPE T = RECORD (B.S) END; W = POINTER TO T; VAR w: W; PROCEDURE f(VAR r: A.R); BEGIN END f; BEGIN "
	expect(t, api.OK, a, b, c+"A.p := w; B.q := w; A.p := B.q; w := A.p{W}; ASSERT(B.q IS W); f(w^); f(B.q^); ASSERT((w = A.p) & (A.p # w)) END C.")
	expect(t, api.ErrType, a, b, c+"w := @A.p END C.")
	expect(t, api.ErrType, a, b, c+"w := @B.q END C.")
	expect(t, api.ErrType, a, b, c+"ASSERT(@w IS B.Q) END C.")
	expect(t, api.ErrType, a, b, c+"ASSERT(@w IS A.P) END C.")
}

// D6: conditions are BOOLEAN; they and the acts are looked at as they stand.
func TestConditions(t *testing.T) {
	tryActs(t, []trial{
		{api.OK, "IF b THEN i := 1 ELSIF i < 2 THEN i := 2 ELSIF on THEN ELSE i := 3 END; WHILE b DO i := 1 END; REPEAT i := 2 UNTIL b; ASSERT(b)"},
		{api.ErrType, "IF @1 THEN nix END"},
		{api.ErrType, "IF @NIL THEN END"},
		{api.ErrName, "IF @nix THEN nox END"},
		{api.ErrName, "IF b THEN @nix ELSIF 1 THEN END"},
		{api.ErrType, "IF b THEN ELSIF @1 THEN nix END"},
		{api.ErrName, "IF b THEN ELSIF b THEN @nix ELSE nox END"},
		{api.ErrType, "IF b THEN ELSIF b THEN ELSIF @p THEN ELSE nox END"},
		{api.ErrName, "IF b THEN ELSE @nox END"},
		{api.ErrName, "IF b THEN i := 1; @nix; nox END"},
		{api.ErrType, "WHILE @i DO nix END"},
		{api.ErrName, "WHILE b DO @nix END"},
		{api.ErrName, "WHILE @nix DO nox END"},
		{api.ErrName, "REPEAT @nix UNTIL 1"},
		{api.ErrType, "REPEAT UNTIL @1"},
		{api.ErrType, "REPEAT UNTIL @r"},
		{api.ErrName, "REPEAT UNTIL @nix"},
		{api.ErrType, "ASSERT(@i)"},
		{api.ErrType, "ASSERT(@NIL)"},
		{api.ErrName, "ASSERT(@nix)"},
		{api.ErrType, "WHILE b DO WHILE b DO IF b THEN REPEAT i := @b UNTIL 1 END END END"},
	})
}

// D6: OUT, GET, NEW.
func TestBuiltIns(t *testing.T) {
	tryActs(t, []trial{
		{api.OK, "OUT(1); OUT(-i); OUT(five); GET(i); GET(line[1]); GET(p.v); GET(Lib.i); GET(p{OwnP}.mine); NEW(p); NEW(op); NEW(p.n); NEW(Lib.p); NEW(p^.n)"},
		{api.ErrType, "OUT(@b)"},
		{api.ErrType, "OUT(@NIL)"},
		{api.ErrType, "OUT(@p)"},
		{api.ErrType, "OUT(@line)"},
		{api.ErrName, "OUT(@nix)"},
		{api.ErrType, "GET(@b)"},
		{api.ErrType, "GET(@p)"},
		{api.ErrType, "GET(@line)"},
		{api.ErrName, "GET(@nix)"},
		{api.ErrKind, "GET(@five)"},
		{api.ErrKind, "GET(@Lib.top)"},
		{api.ErrKind, "GET(@Num)"},
		{api.ErrKind, "GET(@p{OwnP})"},
		{api.ErrType, "GET(line[@b])"},
		{api.ErrType, "NEW(@i)"},
		{api.ErrType, "NEW(@b)"},
		{api.ErrType, "NEW(@r)"},
		{api.ErrType, "NEW(@line)"},
		{api.ErrType, "NEW(@p^)"},
		{api.ErrName, "NEW(@nix)"},
		{api.ErrName, "NEW(@Lib.q)"},
		{api.ErrKind, "NEW(@five)"},
		{api.ErrKind, "NEW(@Own)"},
		{api.ErrKind, "NEW(@OwnP)"},
		{api.ErrKind, "NEW(@p{OwnP})"},
		{api.ErrType, "NEW(@p{FreeP})"},
		{api.ErrName, "NEW(@p.nix)"},
	})
}

// D6: RETURN: an expression, just where there is a result; what is wrong with the expression is told first.
func TestReturns(t *testing.T) {
	tryAll(t, []trial{
		{api.OK, "BEGIN RETURN"},
		{api.ErrType, "BEGIN @RETURN 1"},
		{api.ErrName, "BEGIN RETURN @nix"},
		{api.OK, "PROCEDURE f; BEGIN RETURN END f;"},
		{api.ErrType, "PROCEDURE f; BEGIN @RETURN 1 END f;"},
		{api.ErrType, "PROCEDURE f(): INTEGER; BEGIN @RETURN END f;"},
		{api.ErrType, "PROCEDURE f(): INTEGER; BEGIN IF TRUE THEN @RETURN END; RETURN 1 END f;"},
		{api.ErrType, "PROCEDURE f(): INTEGER; BEGIN RETURN @TRUE END f;"},
		{api.ErrType, "PROCEDURE f(): INTEGER; BEGIN RETURN @NIL END f;"},
		{api.ErrName, "PROCEDURE f(): INTEGER; BEGIN RETURN @nix END f;"},
		{api.OK, "PROCEDURE f(): INTEGER; BEGIN END f;"},
		{api.OK, "PROCEDURE f(b: Lib.BigP): Lib.P; BEGIN IF b = NIL THEN RETURN NIL END; RETURN b END f;"},
		{api.ErrType, "PROCEDURE f(p: Lib.P): Lib.BigP; BEGIN RETURN @p END f;"},
		{api.ErrType, "PROCEDURE f(VAR r: Lib.R): Lib.P; BEGIN RETURN @r END f;"},
		{api.ErrType, "PROCEDURE f(): INTEGER; BEGIN RETURN 1 END f; BEGIN @RETURN 1"},
		{api.ErrType, "PROCEDURE f(): INTEGER; BEGIN RETURN 1 END f; PROCEDURE g; BEGIN @RETURN 1 END g;"},
		{api.ErrType, "PROCEDURE f(): INTEGER; BEGIN RETURN 1 END f; PROCEDURE g(): BOOLEAN; BEGIN RETURN @1 END g;"},
	})
}

// D6: acts one behind the other; parameters are variables.
func TestActsInOrder(t *testing.T) {
	tryActs(t, []trial{
		{api.ErrName, "i := 1; @nix; nox"},
		{api.ErrType, "i := @b; nix"},
		{api.OK, ";; i := 1;; j := 2;"},
	})
	tryAll(t, []trial{
		{api.OK, "PROCEDURE f(x: INTEGER; VAR y: INTEGER; p: Lib.P); BEGIN x := y; y := x; GET(x); NEW(p); f(x, y, p); f(1, x, NIL) END f;"},
		{api.ErrType, "PROCEDURE f(x: INTEGER; VAR y: INTEGER); BEGIN x := @TRUE END f;"},
		{api.ErrType, "PROCEDURE f(VAR r: Lib.R); BEGIN r.v := @TRUE END f;"},
	})
}
