package layout_test

import (
	"math"
	"slices"
	"strconv"
	"strings"
	"testing"
	"time"

	"oberlin/api"
	"oberlin/layout"
)

// two modules: each form of a type, parts that are shown and parts that are not, and what the second one makes of the first one's.
var two = []string{
	`MODULE Lib;
CONST limit* = 3;
TYPE List* = POINTER TO Node; Node* = RECORD val*: INTEGER; next*: List; END;
  Big* = RECORD (Node) more*: INTEGER; on*: BOOLEAN; END; BigList* = POINTER TO Big;
  Row* = ARRAY 4 OF INTEGER; Marks = ARRAY 3 OF BOOLEAN; Lists = ARRAY 3 OF List; Nodes = ARRAY 3 OF Node; Grid = ARRAY 2 OF Nodes;
  Pair* = RECORD a*: Row; l*: List; k: INTEGER; END;
  Empty* = RECORD END; None = ARRAY 5 OF Empty; Still = RECORD (Empty) e: Empty; n: None; END; Late = RECORD (Still) p: List; e2: Empty; q: BigList; END;
  One = ARRAY 1 OF List; Hid = RECORD p: List; END;
VAR row*: Row;
PROCEDURE Go*; BEGIN END Go;
END Lib.`,
	`MODULE Main; IMPORT Lib;
TYPE Own = POINTER TO Rec; Rec = RECORD (Lib.Big) mine: INTEGER; self: Own; pair: Lib.Pair; END;
  Rows = ARRAY 2 OF Lib.Pair; More = RECORD (Rec) rows: Rows; last: Own; END;
VAR i: INTEGER;
END Main.`,
}

// E1: words, and where pointers lie.
func TestOf(t *testing.T) {
	for _, x := range []struct {
		module int
		name   string
		size   int
		points []int
	}{
		{0, "List", 1, []int{0}},
		{0, "BigList", 1, []int{0}},
		{0, "Node", 2, []int{1}},
		{0, "Big", 4, []int{1}},
		{0, "Row", 4, nil},
		{0, "Marks", 3, nil},
		{0, "Lists", 3, []int{0, 1, 2}},
		{0, "Nodes", 6, []int{1, 3, 5}},
		{0, "Grid", 12, []int{1, 3, 5, 7, 9, 11}},
		{0, "Pair", 6, []int{4}},
		{0, "Empty", 0, nil},
		{0, "None", 0, nil},
		{0, "Still", 0, nil},
		{0, "Late", 2, []int{0, 1}},
		{0, "One", 1, []int{0}},
		{0, "Hid", 1, []int{0}},
		{1, "Own", 1, []int{0}},
		{1, "Rec", 12, []int{1, 5, 10}},
		{1, "Rows", 12, []int{4, 10}},
		{1, "More", 25, []int{1, 5, 10, 16, 22, 24}},
	} {
		size, points, err := layout.Of(two, x.module, x.name)
		if err != nil || size != x.size || !slices.Equal(points, x.points) {
			t.Errorf("Of %d %s: %d %v %v, wanted %d %v", x.module, x.name, size, points, err, x.size, x.points)
		}
	}
}

// E1: a field's first word, and its words; also from what the record extends, of any module, exported or not.
func TestField(t *testing.T) {
	for _, x := range []struct {
		module      int
		name, field string
		off, size   int
	}{
		{0, "Node", "val", 0, 1},
		{0, "Node", "next", 1, 1},
		{0, "Big", "val", 0, 1},
		{0, "Big", "next", 1, 1},
		{0, "Big", "more", 2, 1},
		{0, "Big", "on", 3, 1},
		{0, "Pair", "a", 0, 4},
		{0, "Pair", "l", 4, 1},
		{0, "Pair", "k", 5, 1},
		{0, "Still", "e", 0, 0},
		{0, "Late", "e", 0, 0},
		{0, "Late", "n", 0, 0},
		{0, "Late", "p", 0, 1},
		{0, "Late", "e2", 1, 0},
		{0, "Late", "q", 1, 1},
		{1, "Rec", "on", 3, 1},
		{1, "Rec", "mine", 4, 1},
		{1, "Rec", "self", 5, 1},
		{1, "Rec", "pair", 6, 6},
		{1, "More", "val", 0, 1},
		{1, "More", "pair", 6, 6},
		{1, "More", "rows", 12, 12},
		{1, "More", "last", 24, 1},
	} {
		off, size, err := layout.Field(two, x.module, x.name, x.field)
		if err != nil || off != x.off || size != x.size {
			t.Errorf("Field %d %s %s: %d %d %v, wanted %d %d", x.module, x.name, x.field, off, size, err, x.off, x.size)
		}
	}
}

// refused holds both calls to an error, at a place of a text, and to nothing else.
func refused(t *testing.T, texts []string, module int, name, field string, ofWants, fieldWants api.Errno, text, at int) {
	t.Helper()
	size, points, err := layout.Of(texts, module, name)
	e, inText, place := api.Tell(err)
	if e != ofWants || e != api.OK && (inText != text || place != at || size != 0 || len(points) != 0) {
		t.Errorf("Of %d %q: %d %v, error %d in %d at %d, wanted error %d in %d at %d", module, name, size, points, e, inText, place, ofWants, text, at)
	}
	off, size, err := layout.Field(texts, module, name, field)
	e, inText, place = api.Tell(err)
	if e != fieldWants || inText != text || place != at || off != 0 || size != 0 {
		t.Errorf("Field %d %q %q: %d %d, error %d in %d at %d, wanted error %d in %d at %d", module, name, field, off, size, e, inText, place, fieldWants, text, at)
	}
}

// E1: what Check says is told ahead of all else.
func TestWhatCheckSays(t *testing.T) {
	wrong := "MODULE Main; VAR i: INTEGER; BEGIN i := TRUE END Main."
	for _, module := range []int{-1, 0, 1, 2, 9} {
		for _, name := range []string{"Node", "List", "nix"} {
			refused(t, []string{two[0], wrong}, module, name, "nix", api.ErrType, api.ErrType, 1, 40)
			refused(t, []string{two[0] + "."}, module, name, "nix", api.ErrWord, api.ErrWord, 0, len(two[0]))
			refused(t, []string{strings.Repeat(" ", api.MaxText+1)}, module, name, "val", api.ErrLimit, api.ErrLimit, 0, 0)
			refused(t, slices.Repeat([]string{""}, api.MaxModules+1), module, name, "val", api.ErrLimit, api.ErrLimit, -1, -1)
			refused(t, []string{two[0], two[0]}, module, name, "val", api.ErrTwice, api.ErrTwice, 1, 0)
		}
	}
}

// E1: ErrName, unless there is such a text, and it declares such a type itself.
func TestNoSuchType(t *testing.T) {
	for _, module := range []int{-1, 2, 6, math.MinInt, math.MaxInt} {
		refused(t, two, module, "Node", "val", api.ErrName, api.ErrName, -1, -1)
	}
	refused(t, nil, 0, "Node", "val", api.ErrName, api.ErrName, -1, -1)
	for _, name := range []string{"", "nix", "node", "Nod", "Nodes2", "INTEGER", "BOOLEAN", "limit", "row", "Go", "Lib", "Main", "Lib.Node", "val", "RECORD", "Own", "Rec"} {
		refused(t, two, 0, name, "val", api.ErrName, api.ErrName, -1, -1)
	}
	for _, name := range []string{"Node", "Lib", "Lib.Node", "i", "INTEGER"} {
		refused(t, two, 1, name, "val", api.ErrName, api.ErrName, -1, -1)
	}
}

// E1: Field tells ErrKind of what is no record, whatever the field, then ErrName.
func TestNoSuchField(t *testing.T) {
	for _, name := range []string{"List", "BigList", "Row", "Lists", "Nodes", "None"} {
		for _, field := range []string{"val", "next", "nix", "", "0"} {
			refused(t, two, 0, name, field, api.OK, api.ErrKind, -1, -1)
		}
	}
	refused(t, two, 1, "Own", "mine", api.OK, api.ErrKind, -1, -1)
	for _, field := range []string{"", "nix", "Val", "more", "on", "val*", "next.val", "Node"} {
		refused(t, two, 0, "Node", field, api.OK, api.ErrName, -1, -1)
	}
	for _, field := range []string{"a", "val", ""} {
		refused(t, two, 0, "Empty", field, api.OK, api.ErrName, -1, -1)
	}
	refused(t, two, 1, "Rec", "rows", api.OK, api.ErrName, -1, -1)
}

// E1, Z1: types of as many words as there may be.
func TestGreatest(t *testing.T) {
	text := []string{"MODULE M; TYPE P = POINTER TO R; R = RECORD END; A = ARRAY 64 OF P; B = ARRAY 8 OF A; C = RECORD b: B; e: R; END; END M."}
	for _, name := range []string{"B", "C"} {
		size, points, err := layout.Of(text, 0, name)
		if err != nil || size != api.MaxSize || len(points) != api.MaxSize || points[0] != 0 || points[api.MaxSize-1] != api.MaxSize-1 {
			t.Errorf("%s: %d %d points %v", name, size, len(points), err)
		}
	}
	if off, size, err := layout.Field(text, 0, "C", "e"); err != nil || off != api.MaxSize || size != 0 {
		t.Errorf("e: %d %d %v", off, size, err)
	}
}

// nested is a module of types T0, T1 and so on, each made of some of the one ahead of it, as many as fit, and Top, which extends the last one.
func nested(first, each string) []string {
	text := "MODULE M; TYPE P = POINTER TO R; R = RECORD END; T0 = " + first
	last := "T0"
	for number := 1; len(text) < api.MaxText-200; number++ {
		next := "T" + strconv.Itoa(number)
		text += strings.NewReplacer("NEXT", next, "LAST", last).Replace(each)
		last = next
	}
	return []string{text + "Top = RECORD (" + last + ") p: P; END; END M."}
}

// Z1: parts without words, within each other so often that no one could go through all of them.
func TestManyPartsWithoutWords(t *testing.T) {
	for _, x := range []struct {
		first, each string
		points      []int
	}{
		{"RECORD END; ", "NEXT = RECORD a: LAST; b: LAST; END; ", []int{0}},
		{"RECORD END; ", "NEXTx = ARRAY 64 OF LAST; NEXT = RECORD a: NEXTx; END; ", []int{0}},
		{"RECORD END; ", "NEXTx = ARRAY 64 OF LAST; NEXT = RECORD (LAST) fNEXT: NEXTx; END; ", []int{0}},
		{"RECORD q: P; END; ", "NEXT = RECORD c: LAST; END; ", []int{0, 1}},
	} {
		texts := nested(x.first, x.each)
		done := make(chan bool)
		go func() {
			defer close(done)
			size, points, err := layout.Of(texts, 0, "Top")
			if err != nil || size != len(x.points) || !slices.Equal(points, x.points) {
				t.Errorf("%s: %d %v %v, wanted %v", x.each, size, points, err, x.points)
			}
		}()
		select {
		case <-done:
		case <-time.After(20 * time.Second):
			t.Fatalf("%s: no answer", x.each)
		}
	}
}

// Z2: what comes out is the caller's, each time anew, and what is handed in stays as it is.
func TestOwnMemory(t *testing.T) {
	texts := slices.Clone(two)
	_, first, _ := layout.Of(texts, 1, "More")
	for i := range first {
		first[i] = -1
	}
	_, second, _ := layout.Of(texts, 1, "More")
	if !slices.Equal(second, []int{1, 5, 10, 16, 22, 24}) {
		t.Errorf("the second answer: %v", second)
	}
	if !slices.Equal(texts, two) {
		t.Error("the texts were changed")
	}
}
