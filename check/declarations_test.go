package check_test

import (
	"strconv"
	"strings"
	"testing"

	"oberlin/api"
)

// D2: imports are of modules ahead, each once.
func TestImports(t *testing.T) {
	a, b := "MODULE A; END A.", "MODULE B; IMPORT A; END B."
	expect(t, api.OK, a, b, "MODULE C; IMPORT B, A; END C.")
	expect(t, api.ErrName, "MODULE B; IMPORT @A; END B.", a)
	expect(t, api.ErrName, "MODULE A; IMPORT @A; END A.")
	expect(t, api.ErrName, a, "MODULE C; IMPORT A, @B, B; END C.", b)
	expect(t, api.ErrTwice, a, "MODULE C; IMPORT A, @A; END C.")
	expect(t, api.ErrTwice, a, b, "MODULE C; IMPORT A, B, @A, Nix; END C.")
	expect(t, api.ErrName, a, "MODULE C; IMPORT @Nix, A, A; END C.")
	expect(t, api.ErrName, a, "MODULE C; IMPORT A, @Nix, Nix; END C.")
	expect(t, api.ErrName, a, "MODULE C; IMPORT A, @INTEGER; END C.")
}

// D2: what a module imports is no name of those that import it.
func TestImportsAreNotHandedOn(t *testing.T) {
	a := "MODULE A; CONST c* = 1; TYPE T* = RECORD END; VAR v*: T; END A."
	b := "MODULE B; IMPORT A; VAR w*: A.T; END B."
	expect(t, api.ErrName, a, b, "MODULE C; IMPORT B; BEGIN OUT(@A.c) END C.")
	expect(t, api.ErrName, a, b, "MODULE C; IMPORT B; VAR x: @A.T; END C.")
	expect(t, api.ErrName, a, b, "MODULE C; IMPORT B; BEGIN OUT(@B.A.c) END C.")
	expect(t, api.OK, a, b, "MODULE C; IMPORT B, A; BEGIN B.w := A.v END C.")
	expect(t, api.OK, a, b, "MODULE C; IMPORT B; VAR A: INTEGER; BEGIN A := 1 END C.")
}

// D2: modules may have the names of what no module declares; other names may not.
func TestBasicNames(t *testing.T) {
	i := "MODULE INTEGER; CONST c* = 1; TYPE T* = RECORD END; END INTEGER."
	expect(t, api.OK, i, "MODULE M; IMPORT INTEGER; CONST c = INTEGER.c; VAR i: INTEGER; r: INTEGER.T; BEGIN i := INTEGER.c END M.")
	expect(t, api.ErrKind, i, "MODULE M; IMPORT INTEGER; BEGIN OUT(@INTEGER) END M.")
	tryAll(t, []trial{
		{api.ErrTwice, "CONST @INTEGER = 1;"},
		{api.ErrTwice, "CONST @BOOLEAN* = nix;"},
		{api.ErrTwice, "TYPE @BOOLEAN = RECORD END;"},
		{api.ErrTwice, "VAR @INTEGER: INTEGER;"},
		{api.ErrTwice, "@PROCEDURE BOOLEAN; BEGIN END BOOLEAN;"},
		{api.OK, "TYPE R = RECORD INTEGER: BOOLEAN; BOOLEAN: INTEGER; END; VAR r: R; BEGIN OUT(r.BOOLEAN); r.INTEGER := TRUE"},
		{api.OK, "VAR integer: INTEGER; Integer: INTEGER;"},
	})
}

// D2: a module has each name once; its own name is none of these.
func TestNamesTwice(t *testing.T) {
	declared := []string{"", "CONST n = 1;", "TYPE n = RECORD END;", "VAR n: INTEGER;", "PROCEDURE n; BEGIN END n;"}
	twice := []string{"", "CONST @n = 1;", "TYPE @n = RECORD END;", "VAR @n: INTEGER;", "@PROCEDURE n; BEGIN END n;"}
	for i := 1; i < len(declared); i++ {
		for j := i + 1; j < len(twice); j++ {
			expect(t, api.ErrTwice, lib, inX(declared[i]+" "+twice[j]))
		}
	}
	tryAll(t, []trial{
		{api.ErrTwice, "CONST @Lib = 1;"},
		{api.ErrTwice, "TYPE @Lib = RECORD END;"},
		{api.ErrTwice, "VAR @Lib: INTEGER;"},
		{api.ErrTwice, "@PROCEDURE Lib; BEGIN END Lib;"},
		{api.ErrTwice, "CONST a = 1; @a = 2;"},
		{api.ErrTwice, "CONST a = 1; @a = nix;"},
		{api.ErrTwice, "TYPE a = RECORD END; b = RECORD END; @a* = RECORD END;"},
		{api.ErrTwice, "VAR a: INTEGER; b: BOOLEAN; @a: Nix;"},
		{api.ErrTwice, "PROCEDURE a; BEGIN END a; PROCEDURE b; BEGIN END b; @PROCEDURE a*(x: Nix); BEGIN END a;"},
		{api.OK, "CONST X = 1; a = X;"},
		{api.OK, "VAR X: INTEGER; x: INTEGER; BEGIN X := 1"},
	})
}

// D3: what a type name of the module means.
func TestTypeNames(t *testing.T) {
	tryAll(t, []trial{
		{api.OK, "TYPE T = RECORD END; VAR a: INTEGER; b: BOOLEAN; c: T; d: Lib.P; e: Lib.R; f: Lib.Row;"},
		{api.ErrName, "VAR a: @Nix;"},
		{api.ErrName, "VAR a: @R;"},
		{api.ErrName, "VAR a: @NIX.T;"},
		{api.ErrName, "VAR a: @X.T;"},
		{api.ErrName, "TYPE T = RECORD END; VAR a: @X.T;"},
		{api.ErrName, "VAR a: @Lib.Nix;"},
		{api.ErrName, "VAR a: @Lib.Hid;"},
		{api.ErrName, "VAR a: @Lib.low;"},
		{api.ErrName, "VAR a: @Lib.q;"},
		{api.ErrName, "VAR a: @Lib.Inc;"},
		{api.ErrName, "VAR a: @Lib.INTEGER;"},
		{api.ErrKind, "VAR a: @Lib.top;"},
		{api.ErrKind, "VAR a: @Lib.i;"},
		{api.ErrKind, "VAR a: @Lib.Go;"},
		{api.ErrKind, "VAR a: @Lib;"},
		{api.ErrKind, "CONST c = 1; VAR a: @c;"},
		{api.ErrKind, "VAR a: INTEGER; b: @a;"},
		{api.ErrKind, "VAR a: @a;"},
		{api.ErrName, "VAR a: @b; b: INTEGER;"},
		{api.ErrName, "CONST c = 1; VAR a: @c.T;"},
		{api.ErrName, "TYPE T = RECORD f: INTEGER; END; VAR a: @T.f;"},
		{api.ErrName, "VAR a: @f; PROCEDURE f; BEGIN END f;"},
		{api.ErrKind, "PROCEDURE f; BEGIN END f; PROCEDURE g(x: @f); BEGIN END g;"},
		{api.ErrKind, "PROCEDURE f(x: @f); BEGIN END f;"},
		{api.ErrName, "PROCEDURE f(x: @g); BEGIN END f; PROCEDURE g; BEGIN END g;"},
		{api.ErrKind, "PROCEDURE f; VAR x: @g; BEGIN END f; PROCEDURE g; BEGIN END g;"},
	})
}

// D3: type names are asked where types are told of: places, fields, what is extended, what is pointed to.
func TestTypeNamesOfTypes(t *testing.T) {
	for _, ahead := range []string{"ARRAY 2 OF ", "RECORD f: ", "RECORD f: INTEGER; g*: ", "RECORD (", "POINTER TO "} {
		behind := ";"
		switch {
		case strings.HasSuffix(ahead, "("):
			behind = ") END;"
		case strings.HasPrefix(ahead, "RECORD"):
			behind = "; END;"
		}
		tryAll(t, []trial{
			{api.OK, "TYPE T = " + ahead + "Lib.R" + behind},
			{api.OK, "TYPE R = RECORD END; T = " + ahead + "R" + behind},
			{api.ErrName, "TYPE T = " + ahead + "@Nix" + behind},
			{api.ErrName, "TYPE T = " + ahead + "@Lib.Nix" + behind},
			{api.ErrName, "TYPE T = " + ahead + "@Lib.Hid" + behind},
			{api.ErrKind, "TYPE T = " + ahead + "@Lib.top" + behind},
			{api.ErrKind, "CONST c = 1; TYPE T = " + ahead + "@c" + behind},
			{api.ErrKind, "TYPE T = " + ahead + "@Lib" + behind},
			{api.ErrName, "TYPE T = " + ahead + "@v" + behind + " VAR v: INTEGER;"},
		})
	}
}

// D3: only a pointer points to what comes later; all names are there ahead of what they mean.
func TestLaterTypes(t *testing.T) {
	tryAll(t, []trial{
		{api.OK, "TYPE P = POINTER TO R; R = RECORD p: P; END;"},
		{api.OK, "TYPE R = RECORD END; P = POINTER TO R; S = RECORD (R) p: P; END;"},
		{api.OK, "TYPE P = POINTER TO S; Q = POINTER TO R; R = RECORD p: P; END; S = RECORD (R) q: Q; END;"},
		{api.ErrName, "TYPE R = RECORD p: @P; END; P = POINTER TO R;"},
		{api.ErrName, "TYPE A = ARRAY 3 OF @B; B = ARRAY 3 OF INTEGER;"},
		{api.ErrName, "TYPE A = ARRAY 3 OF @A;"},
		{api.ErrName, "TYPE R = RECORD (@S) END; S = RECORD END;"},
		{api.ErrName, "TYPE R = RECORD (@R) END;"},
		{api.ErrName, "TYPE R = RECORD r: @R; END;"},
		{api.ErrName, "TYPE R = RECORD a: INTEGER; r: @S; END; S = RECORD END;"},
		{api.ErrType, "TYPE P = POINTER TO @P;"},
		{api.ErrType, "TYPE P = POINTER TO @Q; Q = POINTER TO R; R = RECORD END;"},
		{api.ErrType, "TYPE P = POINTER TO @A; A = ARRAY 3 OF INTEGER;"},
		{api.ErrTwice, "TYPE P = POINTER TO Nix; @P = RECORD END;"},
		{api.ErrTwice, "TYPE A = ARRAY 0 OF INTEGER; @INTEGER = RECORD END;"},
		{api.ErrName, "TYPE A = ARRAY 1 OF @Nix; B = ARRAY 0 OF INTEGER;"},
	})
}

// D3: arrays, from 1 to MaxLen places.
func TestArrays(t *testing.T) {
	most := strconv.Itoa(api.MaxLen)
	above := strconv.Itoa(api.MaxLen + 1)
	tryAll(t, []trial{
		{api.OK, "TYPE A = ARRAY 1 OF INTEGER; B = ARRAY " + most + " OF INTEGER;"},
		{api.ErrLimit, "TYPE A = @ARRAY 0 OF INTEGER;"},
		{api.ErrLimit, "TYPE A = @ARRAY " + above + " OF INTEGER;"},
		{api.ErrLimit, "TYPE A = @ARRAY 2147483647 OF INTEGER;"},
		{api.ErrLimit, "TYPE A = @ARRAY 0 OF Nix;"},
		{api.ErrLimit, "TYPE Z = RECORD END; A = @ARRAY " + above + " OF Z;"},
		{api.OK, "TYPE A = ARRAY 8 OF Lib.BigP; B = ARRAY 2 OF A; C = ARRAY 2 OF Lib.R; D = ARRAY 2 OF BOOLEAN;"},
	})
}

// D3: pointers point to records, records extend records.
func TestPointersAndBases(t *testing.T) {
	tryAll(t, []trial{
		{api.ErrType, "TYPE P = POINTER TO @INTEGER;"},
		{api.ErrType, "TYPE P = POINTER TO @BOOLEAN;"},
		{api.ErrType, "TYPE P = POINTER TO @Lib.P;"},
		{api.ErrType, "TYPE P = POINTER TO @Lib.Row;"},
		{api.OK, "TYPE P = POINTER TO Lib.Big;"},
		{api.ErrType, "TYPE R = RECORD (@INTEGER) END;"},
		{api.ErrType, "TYPE R = RECORD (@Lib.P) a: Nix; END;"},
		{api.ErrType, "TYPE R = RECORD (@Lib.Row) END;"},
		{api.ErrType, "TYPE P = POINTER TO Lib.R; R = RECORD (@P) END;"},
		{api.OK, "TYPE A = RECORD END; B = RECORD (A) END; C = RECORD (B) END;"},
	})
}

// D3: a record has each field once, also with those that it extends, shown or not.
func TestFieldsTwice(t *testing.T) {
	tryAll(t, []trial{
		{api.ErrTwice, "TYPE R = RECORD a: INTEGER; @a: INTEGER; END;"},
		{api.ErrTwice, "TYPE R = RECORD a: INTEGER; b: INTEGER; @a*: Nix; END;"},
		{api.ErrTwice, "TYPE R = RECORD a: INTEGER; END; S = RECORD (R) @a: BOOLEAN; END;"},
		{api.ErrTwice, "TYPE R = RECORD a: INTEGER; END; S = RECORD (R) END; U = RECORD (S) b: INTEGER; @a: BOOLEAN; END;"},
		{api.ErrTwice, "TYPE R = RECORD (Lib.R) @v: INTEGER; END;"},
		{api.ErrTwice, "TYPE R = RECORD (Lib.R) @h: INTEGER; END;"},
		{api.ErrTwice, "TYPE R = RECORD (Lib.Big) @h: INTEGER; END;"},
		{api.ErrName, "TYPE R = RECORD a: @Nix; a: INTEGER; END;"},
		{api.OK, "TYPE R = RECORD a: INTEGER; END; S = RECORD a: INTEGER; END; U = RECORD (Lib.R) R: INTEGER; X: INTEGER; Lib: INTEGER; END;"},
	})
}

// D3: no type has more than MaxSize words; that is told at its declaration, behind all else of it.
func TestTypeSizes(t *testing.T) {
	tryAll(t, []trial{
		{api.OK, "TYPE A = ARRAY 64 OF INTEGER; B = ARRAY 8 OF A;"},
		{api.ErrLimit, "TYPE A = ARRAY 64 OF INTEGER; @B = ARRAY 9 OF A;"},
		{api.ErrLimit, "TYPE A = ARRAY 57 OF INTEGER; @B* = ARRAY 9 OF A;"},
		{api.OK, "TYPE A = ARRAY 64 OF INTEGER; B = ARRAY 8 OF A; C = RECORD a: B; END; D = ARRAY 1 OF C;"},
		{api.ErrLimit, "TYPE A = ARRAY 64 OF INTEGER; B = ARRAY 8 OF A; @C = RECORD a: B; b: BOOLEAN; END;"},
		{api.ErrLimit, "TYPE A = ARRAY 64 OF INTEGER; B = ARRAY 8 OF A; C = RECORD a: B; END; @D = RECORD (C) p: Lib.P; END;"},
		{api.ErrLimit, "TYPE A = ARRAY 64 OF INTEGER; B = ARRAY 8 OF A; C = RECORD a: B; END; @D = ARRAY 2 OF C;"},
		{api.ErrName, "TYPE A = ARRAY 64 OF INTEGER; B = ARRAY 8 OF A; C = RECORD a: B; b: BOOLEAN; c: @Nix; END;"},
		{api.ErrLimit, "TYPE A = ARRAY 64 OF INTEGER; @B = ARRAY 9 OF A; C = ARRAY 0 OF A;"},
		{api.OK, "TYPE A = ARRAY 64 OF INTEGER; B = ARRAY 8 OF A; R = RECORD a: B; END; P = POINTER TO R; C = ARRAY 64 OF P;"},
		{api.OK, "TYPE Z = RECORD END; A = ARRAY 64 OF Z; B = ARRAY 64 OF A; C = RECORD a: B; END; D = ARRAY 64 OF INTEGER; E = ARRAY 8 OF D; F = RECORD (C) e: E; z: Z; END;"},
		{api.OK, "TYPE A = ARRAY 8 OF Lib.Grid; B = RECORD a: A; b: A; c: A; d: A; e: A; f: Lib.Grid; g: Lib.Row; h: Lib.Row; i: Lib.Row; j: Lib.R; k: Lib.Big; END;"},
		{api.ErrLimit, "TYPE A = ARRAY 8 OF Lib.Grid; @B = RECORD a: A; b: A; c: A; d: A; e: A; f: Lib.Grid; g: Lib.Row; h: Lib.Row; i: Lib.Row; j: Lib.R; k: Lib.Big; l: Lib.P; END;"},
	})
}

// D4: a module's variables have at most MaxSize words together.
func TestVariables(t *testing.T) {
	types := "TYPE A = ARRAY 64 OF INTEGER; H = ARRAY 4 OF A; "
	tryAll(t, []trial{
		{api.OK, types + "VAR a: H; b: H;"},
		{api.ErrLimit, types + "VAR a: H; b: H; @c: INTEGER;"},
		{api.ErrLimit, types + "VAR a: H; i: BOOLEAN; @b*: H;"},
		{api.ErrLimit, types + "VAR a: H; b: H; @c: INTEGER; d: Nix;"},
		{api.ErrName, types + "VAR a: H; b: H; c: @Nix;"},
		{api.ErrTwice, types + "VAR a: H; b: H; @a: H;"},
		{api.OK, types + "VAR a: H; b: A; c: A; d: A; e: A;"},
	})
	expect(t, api.OK, inM("VAR "+several(api.MaxSize, func(i int) string { return letters(i) + ":P;" })))
	expect(t, api.ErrLimit, inM("VAR "+several(api.MaxSize, func(i int) string { return letters(i) + ":P;" })+"@Z:P;"))
}

// inM is a module with a type of one word, P, and these things.
func inM(things string) string {
	return "MODULE M; TYPE P = POINTER TO R; R = RECORD END; " + things + " END M."
}
