package face_test

import (
	"slices"
	"strings"
	"testing"

	"oberlin/face"
)

// whole: a module that shows something of each kind, and hides something of each kind.
const whole = `MODULE M; IMPORT A;
CONST c* = 2 + 3; hid = 4;
TYPE P* = POINTER TO R; R* = RECORD v*: INTEGER; w: A.P; END; In = RECORD (R) x: INTEGER; END;
VAR i*: INTEGER; gap: BOOLEAN; p*: P; last: INTEGER;
PROCEDURE help(x: INTEGER): INTEGER; BEGIN RETURN x + hid END help;
PROCEDURE Go*(a: INTEGER; VAR b: P): INTEGER; VAR t: INTEGER; BEGIN t := help(a); b := p; RETURN t END Go;
BEGIN i := hid END M.`

// change: parts of the module, each followed by what is put for it.
type change []string

// shown is the face and the key of the module behind a change.
func (c change) shown(t *testing.T) (string, int) {
	t.Helper()
	for part := range slices.Chunk(c, 2) {
		if !strings.Contains(whole, part[0]) {
			t.Fatalf("%q doesn't stand in the module", part[0])
		}
	}
	texts := append(slices.Clone(lib), strings.NewReplacer(c...).Replace(whole))
	text, err := face.Of(texts, 2)
	key, keyErr := face.Key(texts, 2)
	if err != nil || keyErr != nil {
		t.Fatalf("%q: %v, %v", c, err, keyErr)
	}
	return text, key
}

// The third thing that is to be true of the whole: what is not shown doesn't matter to a face, nor to a key.
func TestWhatIsNotShown(t *testing.T) {
	text, key := change{}.shown(t)
	for _, c := range []change{
		{"MODULE", "(* a remark *) MODULE"},
		{"; ", " ;\n\n\t"},
		{"IMPORT A", "IMPORT B, A"},
		{"2 + 3", "5"},
		{"2 + 3", "10 DIV 2"},
		{"hid = 4", "hid = 5"},
		{"hid = 4", "hid = 4; hid2 = TRUE"},
		{" hid = 4;", "", "hid", "c"},
		{"gap: BOOLEAN", "hole: INTEGER"},
		{"last: INTEGER", "last: A.Row"},
		{" last: INTEGER;", ""},
		{"PROCEDURE help", "PROCEDURE more; BEGIN END more; PROCEDURE help"},
		{"help(x: INTEGER)", "help(y: BOOLEAN; x: INTEGER)", "help(a)", "help(TRUE, a)"},
		{"(a: INTEGER; VAR b: P)", "(z: INTEGER; VAR y: P)", "help(a)", "help(z)", "b := p", "y := p"},
		{"VAR t: INTEGER", "VAR t: INTEGER; u: A.Row"},
		{"t := help(a)", "t := 3"},
		{"BEGIN i := hid END M", "END M"},
	} {
		if got, number := c.shown(t); got != text || number != key {
			t.Errorf("%q: %d\n%swanted %d\n%s", c, number, got, key, text)
		}
	}
}

// F1, F2: what is shown does matter: each such change makes another face, and another key.
func TestWhatIsShown(t *testing.T) {
	text, key := change{}.shown(t)
	faces, keys := []string{text}, []int{key}
	for _, c := range []change{
		{"2 + 3", "2 * 3"},
		{"2 + 3", "TRUE"},
		{"hid = 4", "hid* = 4"},
		{"c* =", "d* ="},
		{"P* = POINTER", "P = POINTER"},
		{"In = RECORD", "In* = RECORD"},
		{"In = RECORD", "Inn = RECORD"},
		{"In = ", "E = RECORD END; In = "},
		{"RECORD (R) x", "RECORD x"},
		{"x: INTEGER; END", "x: BOOLEAN; END"},
		{"x: INTEGER; END", "x*: INTEGER; END"},
		{"x: INTEGER; END", "y: INTEGER; END"},
		{"v*: INTEGER; w: A.P", "w: A.P; v*: INTEGER"},
		{"w: A.P", "w: P"},
		{"w: A.P;", "w: A.P; z: A.R;"},
		{"i*: INTEGER", "i*: BOOLEAN", "i := hid", "i := TRUE"},
		{"gap: BOOLEAN; ", ""},
		{"gap: BOOLEAN", "gap: A.Row"},
		{"gap: BOOLEAN", "gap*: BOOLEAN"},
		{"p*: P", "p: P"},
		{"PROCEDURE help", "PROCEDURE help*"},
		{"Go*(a", "Go(a"},
		{"Go*(a: INTEGER; VAR", "Go*(VAR a: INTEGER; VAR"},
		{"Go*(a: INTEGER; VAR", "Go*(a: INTEGER; c: P; VAR"},
		{"VAR b: P", "b: P"},
		{"VAR b: P): INTEGER", "VAR b: P): P", "RETURN t", "RETURN p"},
	} {
		text, key := c.shown(t)
		if slices.Contains(faces, text) || slices.Contains(keys, key) {
			t.Errorf("%q: %d is the key of another, or this its face:\n%s", c, key, text)
		}
		faces, keys = append(faces, text), append(keys, key)
	}
}

// F1: of another module's type only what it has of words matters to where one's own things lie.
func TestWhatOthersHide(t *testing.T) {
	for _, x := range []struct{ ahead, record, variable string }{
		{"CONST c = 1; TYPE R* = RECORD v: INTEGER; END; P* = POINTER TO R; VAR x: R; PROCEDURE f; BEGIN x.v := c END f;", "RECORD 2 (A.R) own*:A.P@1", "VAR b A.P 1"},
		{"TYPE P* = POINTER TO R; R* = RECORD b*: BOOLEAN; END;", "RECORD 2 (A.R) own*:A.P@1", "VAR b A.P 1"},
		{"TYPE P* = POINTER TO R; R* = RECORD v: INTEGER; w: INTEGER; END;", "RECORD 3 (A.R) own*:A.P@2", "VAR b A.P 2"},
	} {
		shows(t, behind([]string{"MODULE A; " + x.ahead + " END A."}, "A", "TYPE S* = RECORD (A.R) own*: A.P; END; VAR a: A.R; b*: A.P;"), "TYPE S* "+x.record, x.variable)
	}
}
