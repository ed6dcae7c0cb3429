package check_test

import (
	"testing"

	"oberlin/api"
)

// D2, D5: the name of a constant is there ahead of its value.
func TestConstantNames(t *testing.T) {
	tryAll(t, []trial{
		{api.OK, "CONST a = 1; b* = a; c = b + a; d = Lib.top; e = Lib.yes & (d = 5);"},
		{api.ErrKind, "CONST a = @a;"},
		{api.ErrKind, "CONST a = 1 + @a;"},
		{api.ErrName, "CONST a = @b; b = 1;"},
		{api.ErrName, "CONST a = @T; TYPE T = RECORD END;"},
		{api.ErrName, "CONST a = @v; VAR v: INTEGER;"},
		{api.ErrName, "CONST a = @INTEGER;"},
		{api.ErrName, "CONST a = @X;"},
		{api.ErrKind, "CONST a = @Lib;"},
		{api.ErrName, "CONST a = @Lib.nix;"},
		{api.ErrName, "CONST a = @Lib.low;"},
		{api.ErrName, "CONST a = @Nix.low;"},
		{api.ErrKind, "CONST a = @Lib.i;"},
		{api.ErrKind, "CONST a = @Lib.R;"},
		{api.ErrKind, "CONST a = @Lib.Sum;"},
		{api.ErrKind, "CONST a = 1; b = @a.c;"},
		{api.ErrKind, "CONST a = @Lib.r.v;"},
	})
}

// D5: what may stand in a constant's value.
func TestConstantParts(t *testing.T) {
	tryAll(t, []trial{
		{api.OK, "CONST a = 0; b = 2147483647; c = -b; d = ~TRUE; e = FALSE; f = ~(a < b) OR (c >= a) & (d # e);"},
		{api.OK, "CONST a = 1 + 2 - 3 * 4 DIV 5 MOD 6; b = (1 = 2) = (3 # 4); c = (1 > 2) OR (1 <= 2) OR (1 < 2);"},
		{api.ErrKind, "CONST a = @NIL;"},
		{api.ErrKind, "CONST a = 1; b = @a[1];"},
		{api.ErrKind, "CONST a = 1; b = @a^;"},
		{api.ErrKind, "CONST a = 1; b = @a{Lib.P};"},
		{api.ErrKind, "CONST a = @Lib.Sum(NIL);"},
		{api.ErrKind, "CONST a = 1; b = @a IS Lib.P;"},
		{api.ErrKind, "CONST a = ~@NIL;"},
		{api.ErrKind, "CONST a = -@NIL;"},
		{api.ErrKind, "CONST a = 1 + @NIL;"},
		{api.ErrKind, "CONST a = (1 + 2) * @NIL + nix;"},
		{api.ErrName, "CONST a = @nix + NIL;"},
		{api.ErrKind, "CONST a = @NIL + nix;"},
		{api.ErrKind, "CONST a = @NIL = NIL;"},
	})
}

// D5: of which types the parts of operators are; parts are looked at ahead of that.
func TestConstantTypes(t *testing.T) {
	tryAll(t, []trial{
		{api.ErrType, "CONST a = ~@1;"},
		{api.ErrType, "CONST a = -@TRUE;"},
		{api.ErrType, "CONST a = TRUE & @1;"},
		{api.ErrType, "CONST a = @1 & TRUE;"},
		{api.ErrType, "CONST a = @1 & 1;"},
		{api.ErrType, "CONST a = FALSE OR @1;"},
		{api.ErrType, "CONST a = @1 OR FALSE;"},
		{api.ErrType, "CONST a = 1 = @TRUE;"},
		{api.ErrType, "CONST a = TRUE # @1;"},
		{api.OK, "CONST a = TRUE = FALSE; b = 1 # 2;"},
		{api.ErrType, "CONST b = TRUE; a = 1 + 2 * @b;"},
		{api.ErrType, "CONST a = -1; b = ~@a;"},
		{api.ErrType, "CONST a = 1 < 2; b = -@a;"},
		{api.ErrType, "CONST a = ~(@1 + 2);"},
		{api.ErrKind, "CONST a = 1 & @NIL;"},
		{api.ErrName, "CONST a = TRUE + @nix;"},
		{api.ErrType, "CONST a = TRUE & @1 & nix;"},
	})
	for _, sign := range []string{"+", "-", "*", "DIV", "MOD", "<", "<=", ">", ">="} {
		tryAll(t, []trial{
			{api.OK, "CONST a = 1 " + sign + " 2;"},
			{api.ErrType, "CONST a = @TRUE " + sign + " 2;"},
			{api.ErrType, "CONST a = 1 " + sign + " @TRUE;"},
			{api.ErrType, "CONST a = @TRUE " + sign + " TRUE;"},
		})
	}
	for _, of := range []trial{{api.OK, "1 + 2"}, {api.OK, "1 - 2"}, {api.OK, "1 * 2"}, {api.OK, "1 DIV 2"}, {api.OK, "1 MOD 2"}, {api.OK, "-1"}} {
		tryAll(t, []trial{{api.OK, "CONST a = " + of.text + "; b = -a;"}, {api.ErrType, "CONST a = " + of.text + "; b = ~@a;"}})
	}
	for _, of := range []string{"1 = 2", "1 # 2", "1 < 2", "1 <= 2", "1 > 2", "1 >= 2", "TRUE & TRUE", "TRUE OR TRUE", "~TRUE"} {
		tryAll(t, []trial{{api.OK, "CONST a = " + of + "; b = ~a;"}, {api.ErrType, "CONST a = " + of + "; b = -@a;"}})
	}
}

// D5: nothing is divided by 0, or less; that is told at the operator, behind what is wrong with its parts.
func TestConstantDivisors(t *testing.T) {
	for _, sign := range []string{"DIV", "MOD"} {
		tryAll(t, []trial{
			{api.OK, "CONST a = 5 " + sign + " 1; b = -5 " + sign + " 2147483647;"},
			{api.ErrLimit, "CONST a = @5 " + sign + " 0;"},
			{api.ErrLimit, "CONST a = @5 " + sign + " (-1);"},
			{api.ErrLimit, "CONST a = 1 + @5 " + sign + " (2147483647 + 1);"},
			{api.ErrLimit, "CONST a = 2 - (@0 " + sign + " (1 - 1)) + nix;"},
			{api.ErrLimit, "CONST z = 0; a = @z " + sign + " z;"},
			{api.ErrType, "CONST a = @TRUE " + sign + " 0;"},
			{api.ErrName, "CONST a = 5 " + sign + " @nix;"},
		})
	}
	tryAll(t, []trial{
		{api.ErrLimit, "CONST a = FALSE & (@1 DIV 0 = 1);"},
		{api.ErrLimit, "CONST a = TRUE OR (@1 MOD 0 = 1);"},
		{api.ErrName, "CONST a = FALSE & @nix;"},
		{api.ErrType, "CONST a = TRUE OR @1;"},
		{api.OK, "BEGIN OUT(5 DIV 0); OUT(5 MOD (-1))"},
	})
}
