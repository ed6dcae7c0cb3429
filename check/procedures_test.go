package check_test

import (
	"testing"

	"oberlin/api"
)

// D4: the heads of procedures.
func TestHeads(t *testing.T) {
	tryAll(t, []trial{
		{api.OK, "PROCEDURE f(a: INTEGER; VAR b: BOOLEAN; c: Lib.P; VAR d: Lib.R; VAR e: Lib.Row): Lib.BigP; BEGIN RETURN NIL END f;"},
		{api.ErrTwice, "PROCEDURE f(a: INTEGER; @a: INTEGER); BEGIN END f;"},
		{api.ErrTwice, "PROCEDURE f(a: INTEGER; b: INTEGER; @VAR a: Nix); BEGIN END f;"},
		{api.ErrTwice, "PROCEDURE f(@INTEGER: INTEGER); BEGIN END f;"},
		{api.ErrTwice, "PROCEDURE f(@VAR BOOLEAN: Nix); BEGIN END f;"},
		{api.ErrName, "PROCEDURE f(a: @Nix; a: INTEGER); BEGIN END f;"},
		{api.ErrName, "PROCEDURE f(a: INTEGER; VAR b: @Lib.Nix); BEGIN END f;"},
		{api.ErrKind, "PROCEDURE f(a: @Lib.top); BEGIN END f;"},
		{api.ErrType, "PROCEDURE f(a: @Lib.R); BEGIN END f;"},
		{api.ErrType, "PROCEDURE f(a: INTEGER; b: @Lib.Row; c: Nix); BEGIN END f;"},
		{api.OK, "PROCEDURE f(VAR a: Lib.R; VAR b: Lib.Row; VAR c: Lib.P); BEGIN END f;"},
		{api.ErrName, "PROCEDURE f(): @Nix; BEGIN END f;"},
		{api.ErrKind, "PROCEDURE f(): @Lib.i; BEGIN END f;"},
		{api.ErrType, "PROCEDURE f(): @Lib.R; BEGIN END f;"},
		{api.ErrType, "PROCEDURE f: @Lib.Row; BEGIN END f;"},
		{api.OK, "PROCEDURE f(): BOOLEAN; BEGIN END f; PROCEDURE g: Lib.P; BEGIN END g;"},
		{api.ErrName, "PROCEDURE f(a: @Nix): Nox; BEGIN END f;"},
	})
}

// D4: the names of a procedure that stand ahead count in its head, and hide those of the module there.
func TestNamesInHeads(t *testing.T) {
	tryAll(t, []trial{
		{api.OK, "PROCEDURE f(Lib: INTEGER; f: INTEGER; X: INTEGER); BEGIN OUT(Lib + f + X) END f;"},
		{api.ErrName, "PROCEDURE f(Lib: INTEGER; a: @Lib.P); BEGIN END f;"},
		{api.OK, "PROCEDURE f(a: Lib.P; Lib: INTEGER); BEGIN END f;"},
		{api.ErrName, "PROCEDURE f(Lib: @Lib.P); BEGIN END f;"},
		{api.ErrName, "PROCEDURE f(Lib: INTEGER): @Lib.P; BEGIN END f;"},
		{api.ErrKind, "TYPE T = POINTER TO Lib.R; PROCEDURE f(T: INTEGER; a: @T); BEGIN END f;"},
		{api.ErrKind, "TYPE T = POINTER TO Lib.R; PROCEDURE f(T: @T); BEGIN END f;"},
		{api.ErrKind, "TYPE T = POINTER TO Lib.R; PROCEDURE f(T: INTEGER): @T; BEGIN END f;"},
		{api.OK, "TYPE T = POINTER TO Lib.R; PROCEDURE f(T: INTEGER); BEGIN END f; PROCEDURE g(a: T): T; BEGIN END g;"},
	})
}

// D4: all heads are asked ahead of all that stands behind them.
func TestHeadsFirst(t *testing.T) {
	tryAll(t, []trial{
		{api.ErrTwice, "PROCEDURE f; VAR a: Nix; BEGIN END f; PROCEDURE g; BEGIN x := 1 END g; @PROCEDURE f; BEGIN END f;"},
		{api.ErrType, "PROCEDURE f; BEGIN x := 1 END f; PROCEDURE g(): @Lib.Row; BEGIN END g;"},
		{api.ErrName, "PROCEDURE f; VAR a: @Nix; BEGIN x := 1 END f; PROCEDURE g; VAR a: Nox; BEGIN END g;"},
		{api.ErrName, "PROCEDURE f; BEGIN @x := 1 END f; PROCEDURE g; VAR a: Nox; BEGIN END g; BEGIN y := 1"},
		{api.ErrName, "PROCEDURE f; BEGIN END f; PROCEDURE g; BEGIN END g; BEGIN @y := 1"},
		{api.OK, "PROCEDURE f(x: INTEGER); BEGIN g(x) END f; PROCEDURE g(x: INTEGER); BEGIN f(x) END g;"},
	})
}

// D4: a procedure's own variables: the type is asked ahead of the name.
func TestInnerVariables(t *testing.T) {
	tryAll(t, []trial{
		{api.OK, "PROCEDURE f(a: INTEGER); VAR b: INTEGER; c: Lib.Row; d: Lib.R; BEGIN END f; PROCEDURE g(b: INTEGER); VAR a: BOOLEAN; BEGIN END g;"},
		{api.ErrTwice, "PROCEDURE f(a: INTEGER); VAR @a: INTEGER; BEGIN END f;"},
		{api.ErrTwice, "PROCEDURE f; VAR a: INTEGER; b: INTEGER; @a: BOOLEAN; BEGIN END f;"},
		{api.ErrTwice, "PROCEDURE f; VAR @INTEGER: BOOLEAN; BEGIN END f;"},
		{api.ErrTwice, "PROCEDURE f; VAR @BOOLEAN: INTEGER; BEGIN END f;"},
		{api.ErrName, "PROCEDURE f(a: INTEGER); VAR a: @Nix; BEGIN END f;"},
		{api.ErrKind, "PROCEDURE f; VAR a: @Lib.Go; BEGIN END f;"},
		{api.OK, "PROCEDURE f; VAR f: INTEGER; Lib: INTEGER; X: INTEGER; BEGIN f := Lib + X END f;"},
	})
}

// D4: the names of a procedure ahead of a type name count there; its variables' own don't yet.
func TestNamesAheadOfInnerTypes(t *testing.T) {
	tryAll(t, []trial{
		{api.OK, "TYPE T = RECORD END; PROCEDURE f; VAR T: T; BEGIN END f;"},
		{api.OK, "PROCEDURE f; VAR Lib: Lib.R; BEGIN OUT(Lib.v) END f;"},
		{api.ErrKind, "TYPE T = RECORD END; PROCEDURE f; VAR T: T; b: @T; BEGIN END f;"},
		{api.ErrKind, "TYPE T = RECORD END; PROCEDURE f(T: INTEGER); VAR b: @T; BEGIN END f;"},
		{api.ErrName, "PROCEDURE f; VAR Lib: INTEGER; b: @Lib.P; BEGIN END f;"},
		{api.OK, "PROCEDURE f; VAR b: Lib.P; Lib: INTEGER; BEGIN END f;"},
		{api.ErrKind, "TYPE T = POINTER TO Lib.R; PROCEDURE f(p: Lib.P); VAR T: INTEGER; BEGIN OUT(p{@T}.v) END f;"},
		{api.ErrName, "PROCEDURE f(p: Lib.P); VAR Lib: INTEGER; BEGIN ASSERT(p IS @Lib.BigP) END f;"},
	})
}

// D4: parameters, a word each, and variables have at most MaxSize words together.
func TestInnerSizes(t *testing.T) {
	types := "TYPE A = ARRAY 64 OF INTEGER; H = ARRAY 4 OF A; "
	tryAll(t, []trial{
		{api.OK, types + "PROCEDURE f; VAR a: H; b: H; BEGIN END f; PROCEDURE g; VAR a: H; b: H; BEGIN END g;"},
		{api.ErrLimit, types + "PROCEDURE f; VAR a: H; b: H; @c: INTEGER; d: Nix; BEGIN END f;"},
		{api.ErrLimit, types + "PROCEDURE f(p: INTEGER); VAR a: H; @b: H; BEGIN END f;"},
		{api.ErrLimit, types + "PROCEDURE f(VAR p: H); VAR a: H; @b: H; BEGIN x := 1 END f;"},
		{api.OK, types + "PROCEDURE f(VAR p: H; VAR q: H; r: INTEGER); VAR a: H; BEGIN END f;"},
		{api.OK, types + "Z = RECORD END; PROCEDURE f; VAR a: H; b: H; z: Z; BEGIN END f;"},
		{api.ErrTwice, types + "PROCEDURE f; VAR a: H; b: H; @a: INTEGER; BEGIN END f;"},
		{api.ErrName, types + "PROCEDURE f; VAR a: H; b: H; c: @Nix; BEGIN END f;"},
		{api.OK, types + "VAR a: H; b: H; PROCEDURE f; VAR a: H; b: H; BEGIN END f;"},
	})
	parameters := several(api.MaxSize, func(i int) string { return letters(i) + ":P;" })
	expect(t, api.OK, inM("PROCEDURE F("+parameters+"Z:P); BEGIN END F;"))
	expect(t, api.ErrLimit, inM("PROCEDURE F("+parameters[:len(parameters)-1]+"); VAR @Z:P; BEGIN END F;"))
}

// D4: names of a procedure hide those of the module, in it alone.
func TestHiding(t *testing.T) {
	tryAll(t, []trial{
		{api.OK, "VAR a: BOOLEAN; PROCEDURE f(a: INTEGER); BEGIN OUT(a) END f; BEGIN a := TRUE"},
		{api.ErrType, "VAR a: BOOLEAN; PROCEDURE f(a: INTEGER); BEGIN a := @TRUE END f;"},
		{api.ErrType, "VAR a: BOOLEAN; PROCEDURE f(a: INTEGER); BEGIN END f; BEGIN a := @1"},
		{api.ErrType, "VAR a: BOOLEAN; PROCEDURE f(a: INTEGER); BEGIN END f; PROCEDURE g; BEGIN OUT(@a) END g;"},
		{api.OK, "CONST a = 1; PROCEDURE f; VAR a: INTEGER; BEGIN a := 2 END f;"},
		{api.ErrKind, "PROCEDURE g; BEGIN END g; PROCEDURE f(g: INTEGER); BEGIN @g END f;"},
		{api.ErrKind, "PROCEDURE f(f: INTEGER); BEGIN @f(1) END f;"},
		{api.ErrName, "PROCEDURE f; VAR a: INTEGER; BEGIN END f; BEGIN @a := 1"},
		{api.ErrName, "PROCEDURE f(a: INTEGER); BEGIN END f; PROCEDURE g; BEGIN @a := 1 END g;"},
		{api.ErrType, "PROCEDURE f(Lib: INTEGER); BEGIN OUT(@Lib.top) END f;"},
		{api.OK, "PROCEDURE f(Lib: INTEGER); BEGIN OUT(Lib) END f; BEGIN OUT(Lib.top)"},
		{api.ErrName, "PROCEDURE f; VAR Lib: Lib.R; BEGIN OUT(@Lib.top) END f;"},
	})
}
