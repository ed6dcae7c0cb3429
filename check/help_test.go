package check_test

import (
	"strings"
	"testing"

	"oberlin/api"
	"oberlin/check"
)

// lib: a module that shows something of each kind, and hides something of each kind.
const lib = `MODULE Lib;
CONST top* = 5; low = 2; yes* = TRUE;
TYPE P* = POINTER TO R; R* = RECORD v*: INTEGER; n*: P; h: INTEGER; END;
  Big* = RECORD (R) more*: INTEGER; own: INTEGER; END; BigP* = POINTER TO Big;
  Row* = ARRAY 4 OF INTEGER; Grid* = ARRAY 3 OF Row;
  Hid = RECORD a*: INTEGER; b: INTEGER; END;
VAR i*: INTEGER; b*: BOOLEAN; p*: P; big*: BigP; r*: R; row*: Row; grid*: Grid; hid*: Hid; q: P;
PROCEDURE Inc;
BEGIN i := i + low END Inc;
PROCEDURE Go*;
BEGIN Inc END Go;
PROCEDURE Sum*(l: P): INTEGER;
BEGIN IF l = NIL THEN RETURN 0 END; RETURN l.v + l.h + Sum(l.n) END Sum;
PROCEDURE Put*(VAR r: Row; x: INTEGER);
BEGIN r[0] := x END Put;
PROCEDURE Set*(VAR r: R);
BEGIN r.h := top; q := r.n END Set;
END Lib.
`

// trial: what is told of a text. Where it is wrong an @ stands (which is in no word): there the fault is told.
type trial struct {
	want api.Errno
	text string
}

// marked takes the @ out of texts, and tells where it stood; -1, -1: nowhere.
func marked(texts []string) (plain []string, text, at int) {
	text, at = -1, -1
	for i, s := range texts {
		ahead, behind, found := strings.Cut(s, "@")
		if found {
			text, at = i, len(ahead)
		}
		plain = append(plain, ahead+behind)
	}
	return plain, text, at
}

// expect holds what Check tells of texts against what is wanted, where the @ stands.
func expect(t *testing.T, want api.Errno, texts ...string) {
	t.Helper()
	plain, text, at := marked(texts)
	e, gotText, gotAt := api.Tell(check.Check(plain))
	if e != want || gotText != text || gotAt != at {
		t.Errorf("%s: error %d in %d at %d, wanted error %d in %d at %d", strings.Join(texts, "\n"), e, gotText, gotAt, want, text, at)
	}
}

// inX is a module with these things, which imports lib.
func inX(things string) string { return "MODULE X; IMPORT Lib; " + things + " END X." }

// tryAll tries things of modules, each behind lib.
func tryAll(t *testing.T, trials []trial) {
	t.Helper()
	for _, x := range trials {
		expect(t, x.want, lib, inX(x.text))
	}
}

// fixed: what most acts are tried with.
const fixed = `CONST five = 5; on = TRUE;
TYPE Own = RECORD (Lib.R) mine: INTEGER; END; OwnP = POINTER TO Own; Free = RECORD f: INTEGER; END; FreeP = POINTER TO Free;
  Line = ARRAY 3 OF INTEGER; Twin = ARRAY 3 OF INTEGER; Many = ARRAY 2 OF Own;
VAR i: INTEGER; j: INTEGER; b: BOOLEAN; p: Lib.P; big: Lib.BigP; o: Own; op: OwnP; f: Free; fp: FreeP; line: Line; twin: Twin; many: Many; r: Lib.R;
PROCEDURE Nop; BEGIN END Nop;
PROCEDURE One(x: INTEGER); BEGIN END One;
PROCEDURE Two(x: INTEGER; VAR y: INTEGER); BEGIN END Two;
PROCEDURE Flag(x: BOOLEAN): BOOLEAN; BEGIN RETURN x END Flag;
PROCEDURE Num(): INTEGER; BEGIN RETURN 1 END Num;
PROCEDURE Last(x: Lib.P): Lib.P; BEGIN RETURN x END Last;
PROCEDURE ByR(VAR x: Lib.R); BEGIN END ByR;
PROCEDURE ByOwn(VAR x: Own); BEGIN END ByOwn;
PROCEDURE ByP(VAR x: Lib.P); BEGIN END ByP;
PROCEDURE ByLine(VAR x: Line); BEGIN END ByLine;
BEGIN `

// tryActs tries acts of a module with the fixed things.
func tryActs(t *testing.T, trials []trial) {
	t.Helper()
	for _, x := range trials {
		expect(t, x.want, lib, inX(fixed+x.text))
	}
}

// letters: a name that no other number has, of letters alone.
func letters(number int) string {
	s := ""
	for i := number; i > 0 || s == ""; i /= 26 {
		s += string(rune('a' + i%26))
	}
	return s
}

// several is a text for each of so many numbers, one behind the other.
func several(count int, each func(int) string) string {
	var b strings.Builder
	for i := range count {
		b.WriteString(each(i))
	}
	return b.String()
}
