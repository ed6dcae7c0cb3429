package face_test

import (
	"hash/fnv"
	"math"
	"slices"
	"strings"
	"testing"

	"oberlin/api"
	"oberlin/face"
)

// lines of a face, each with its newline.
func lines(l ...string) string { return strings.Join(l, "\n") + "\n" }

// shows holds the face of the last text against the lines that are wanted behind the module's name M.
func shows(t *testing.T, texts []string, want ...string) {
	t.Helper()
	got, err := face.Of(texts, len(texts)-1)
	if wanted := lines(append([]string{"M"}, want...)...); err != nil || got != wanted {
		t.Errorf("%s:\n%s%v\nwanted:\n%s", texts[len(texts)-1], got, err, wanted)
	}
}

// inM is a module M of these things.
func inM(things string) []string { return []string{"MODULE M; " + things + " END M."} }

// behind is a module M of these things that imports those of the texts ahead.
func behind(ahead []string, imports, things string) []string {
	return append(slices.Clone(ahead), "MODULE M; IMPORT "+imports+"; "+things+" END M.")
}

// lib: what M may be made of.
var lib = []string{
	"MODULE A; CONST c* = 7; yes* = TRUE; TYPE R* = RECORD v*: INTEGER; h: INTEGER; END; P* = POINTER TO R; Row* = ARRAY 3 OF P; VAR r*: R; END A.",
	"MODULE B; IMPORT A; TYPE S* = RECORD (A.R) w*: A.Row; END; Q* = POINTER TO S; END B.",
}

// F1, F2: the document's example.
func TestExample(t *testing.T) {
	texts := []string{`MODULE L;
CONST two* = 1 + 1;
TYPE P* = POINTER TO R; R* = RECORD v*: INTEGER; n*: P; END; Big = RECORD (R) more: INTEGER; END;
VAR p*: P;
PROCEDURE Push*(x: INTEGER); VAR q: P;
BEGIN NEW(q); q.v := x; q.n := p; p := q END Push;
END L.`}
	want := lines("L", "CONST two INTEGER 2", "TYPE P* POINTER L.R", "TYPE R* RECORD 2 v*:INTEGER@0 n*:L.P@1",
		"TYPE Big RECORD 3 (L.R) more:INTEGER@2", "VAR p L.P 0", "PROCEDURE Push INTEGER")
	if got, err := face.Of(texts, 0); got != want || err != nil {
		t.Errorf("Of: %q, %v, wanted %q", got, err, want)
	}
	if key, err := face.Key(texts, 0); key != 845329167 || err != nil {
		t.Errorf("Key: %d, %v", key, err)
	}
}

// F1: the name alone, where nothing is shown.
func TestNothing(t *testing.T) {
	shows(t, inM(""))
	shows(t, inM("CONST a = 1; VAR b: INTEGER; PROCEDURE c; BEGIN END c; BEGIN b := a"))
	shows(t, behind(lib, "A, B", "VAR q: B.Q;"))
}

// F1: constants, with their types and values.
func TestConstants(t *testing.T) {
	shows(t, inM("CONST a* = 0; b* = 2147483647; c* = -5; d* = -2147483647 - 1; e* = 007;"),
		"CONST a INTEGER 0", "CONST b INTEGER 2147483647", "CONST c INTEGER -5", "CONST d INTEGER -2147483648", "CONST e INTEGER 7")
	shows(t, inM("CONST a* = TRUE; b* = FALSE; hid = 3; c* = hid > 2; d* = ~c; e* = hid * hid;"),
		"CONST a BOOLEAN 1", "CONST b BOOLEAN 0", "CONST c BOOLEAN 1", "CONST d BOOLEAN 0", "CONST e INTEGER 9")
	shows(t, behind(lib, "A", "CONST a* = A.c + 1; b* = ~A.yes;"), "CONST a INTEGER 8", "CONST b BOOLEAN 0")
}

// F1: types, all of them, with a star behind the name of what is exported.
func TestTypes(t *testing.T) {
	shows(t, inM("TYPE A* = ARRAY 64 OF INTEGER; B = ARRAY 1 OF BOOLEAN; C* = ARRAY 2 OF A; D = ARRAY 2 OF B;"),
		"TYPE A* ARRAY 64 INTEGER", "TYPE B ARRAY 1 BOOLEAN", "TYPE C* ARRAY 2 M.A", "TYPE D ARRAY 2 M.B")
	shows(t, inM("TYPE P = POINTER TO R; Q* = POINTER TO R; R = RECORD END;"),
		"TYPE P POINTER M.R", "TYPE Q* POINTER M.R", "TYPE R RECORD 0")
	shows(t, inM("TYPE R* = RECORD a: INTEGER; b*: BOOLEAN; END; S = RECORD (R) END; T* = RECORD (S) c: R; d*: S; e: INTEGER; END;"),
		"TYPE R* RECORD 2 a:INTEGER@0 b*:BOOLEAN@1", "TYPE S RECORD 2 (M.R)", "TYPE T* RECORD 7 (M.S) c:M.R@2 d*:M.S@4 e:INTEGER@6")
}

// F1: types of other modules are named by the module that declares them.
func TestTypesOfOthers(t *testing.T) {
	shows(t, behind(lib, "B, A", "TYPE X* = RECORD (B.S) p: A.P; q*: B.Q; END; Y = POINTER TO B.S; Z* = ARRAY 2 OF A.Row; W = POINTER TO A.R;"),
		"TYPE X* RECORD 7 (B.S) p:A.P@5 q*:B.Q@6", "TYPE Y POINTER B.S", "TYPE Z* ARRAY 2 A.Row", "TYPE W POINTER A.R")
	if got, err := face.Of(lib, 1); err != nil || got != lines("B", "TYPE S* RECORD 5 (A.R) w*:A.Row@2", "TYPE Q* POINTER B.S") {
		t.Errorf("B: %q %v", got, err)
	}
	if got, err := face.Of(lib, 0); err != nil || got != lines("A", "CONST c INTEGER 7", "CONST yes BOOLEAN 1", "TYPE R* RECORD 2 v*:INTEGER@0 h:INTEGER@1", "TYPE P* POINTER A.R", "TYPE Row* ARRAY 3 A.P", "VAR r A.R 0") {
		t.Errorf("A: %q %v", got, err)
	}
}

// F1: variables lie one behind the other, also those that are not shown.
func TestVariables(t *testing.T) {
	shows(t, inM("TYPE Row = ARRAY 3 OF INTEGER; E = RECORD END; VAR a: INTEGER; b*: Row; c: Row; d*: BOOLEAN; e: E; f*: INTEGER; g*: E; h*: Row; i: INTEGER;"),
		"TYPE Row ARRAY 3 INTEGER", "TYPE E RECORD 0", "VAR b M.Row 1", "VAR d BOOLEAN 7", "VAR f INTEGER 8", "VAR g M.E 9", "VAR h M.Row 9")
	shows(t, behind(lib, "A, B", "VAR a: A.Row; b*: B.Q; c*: A.R;"), "VAR b B.Q 3", "VAR c A.R 4")
}

// F1: procedures, with their parameters and results.
func TestProcedures(t *testing.T) {
	shows(t, inM("PROCEDURE a*; BEGIN END a; PROCEDURE b*(); BEGIN END b; PROCEDURE hid; BEGIN END hid; PROCEDURE c*(x: INTEGER; VAR y: BOOLEAN; VAR z: INTEGER; w: BOOLEAN); BEGIN END c;"),
		"PROCEDURE a", "PROCEDURE b", "PROCEDURE c INTEGER VAR BOOLEAN VAR INTEGER BOOLEAN")
	shows(t, inM("PROCEDURE a*(): INTEGER; BEGIN RETURN 1 END a; PROCEDURE b*(VAR x: INTEGER): BOOLEAN; VAR i: INTEGER; BEGIN RETURN TRUE END b; PROCEDURE c*: INTEGER; BEGIN RETURN 1 END c;"),
		"PROCEDURE a : INTEGER", "PROCEDURE b VAR INTEGER : BOOLEAN", "PROCEDURE c : INTEGER")
	shows(t, behind(lib, "A, B", "TYPE P = POINTER TO A.R; PROCEDURE a*(VAR x: A.Row; y: P; VAR z: B.S): B.Q; BEGIN RETURN NIL END a;"),
		"TYPE P POINTER A.R", "PROCEDURE a VAR A.Row M.P VAR B.S : B.Q")
}

// F1: all in the order of the declarations, not by their names.
func TestOrder(t *testing.T) {
	shows(t, inM("CONST z* = 1; b* = 2; TYPE y = POINTER TO a; a* = RECORD q*: INTEGER; p: INTEGER; END; VAR x*: INTEGER; c*: y; PROCEDURE w*; BEGIN END w; PROCEDURE d*(i: INTEGER; VAR h: a); BEGIN END d;"),
		"CONST z INTEGER 1", "CONST b INTEGER 2", "TYPE y POINTER M.a", "TYPE a* RECORD 2 q*:INTEGER@0 p:INTEGER@1",
		"VAR x INTEGER 0", "VAR c M.y 1", "PROCEDURE w", "PROCEDURE d INTEGER VAR M.a")
}

// F2: known numbers; and the key is the number of the face, as the library's hash by that rule has it.
func TestKey(t *testing.T) {
	for name, want := range map[string]int{"M": 4242498390, "a": 623167186, "LongestOfAll": 2269964963} {
		key, err := face.Key([]string{"MODULE " + name + "; END " + name + "."}, 0)
		if err != nil || key != want {
			t.Errorf("%s: %d %v, wanted %d", name, key, err, want)
		}
	}
	for i := range lib {
		text, _ := face.Of(lib, i)
		h := fnv.New32a()
		h.Write([]byte(text))
		if key, err := face.Key(lib, i); err != nil || key != int(h.Sum32()) {
			t.Errorf("%d: %d %v, wanted %d", i, key, err, h.Sum32())
		}
	}
}

// refused holds both calls to an error, and to nothing else.
func refused(t *testing.T, texts []string, module int, want api.Errno, text, at int) {
	t.Helper()
	shown, err := face.Of(texts, module)
	if e, inText, place := api.Tell(err); e != want || inText != text || place != at || shown != "" {
		t.Errorf("Of %d: %q, error %d in %d at %d, wanted error %d in %d at %d", module, shown, e, inText, place, want, text, at)
	}
	key, err := face.Key(texts, module)
	if e, inText, place := api.Tell(err); e != want || inText != text || place != at || key != 0 {
		t.Errorf("Key %d: %d, error %d in %d at %d, wanted error %d in %d at %d", module, key, e, inText, place, want, text, at)
	}
}

// F1, F2: what Check says, also of another text than the one that is asked for; then ErrName, unless there is such a text.
func TestErrors(t *testing.T) {
	for _, module := range []int{-1, 0, 1, 2, 3, math.MaxInt} {
		refused(t, []string{lib[0], "MODULE M; VAR i: INTEGER; BEGIN i := TRUE END M."}, module, api.ErrType, 1, 37)
		refused(t, []string{"MODULE M; CONST a* = nix; END M.", lib[0]}, module, api.ErrName, 0, 21)
		refused(t, []string{"MODULE M; BEGIN x := 1 + END M."}, module, api.ErrWord, 0, 25)
		refused(t, slices.Repeat(lib, 4), module, api.ErrLimit, -1, -1)
	}
	for _, module := range []int{-1, -2, 2, 3, math.MaxInt, math.MinInt} {
		refused(t, lib, module, api.ErrName, -1, -1)
	}
	refused(t, nil, 0, api.ErrName, -1, -1)
	refused(t, []string{}, -1, api.ErrName, -1, -1)
}
