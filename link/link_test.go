package link_test

import (
	"fmt"
	"slices"
	"strings"
	"testing"

	"oberlin/api"
	"oberlin/gen"
	"oberlin/link"
)

// Modules: Mid imports Low, High imports Mid; Side imports nothing.
const (
	low  = "MODULE Low; CONST c* = 3; TYPE P* = POINTER TO R; R* = RECORD v*: INTEGER; n*: P; END; VAR i: INTEGER; p*: P; PROCEDURE help; BEGIN i := c END help; PROCEDURE Go*; BEGIN help; NEW(p) END Go; PROCEDURE Up*(x: INTEGER); BEGIN END Up; PROCEDURE Of*(): P; BEGIN RETURN p END Of; END Low."
	mid  = "MODULE Mid; IMPORT Low; TYPE S* = RECORD (Low.R) w: INTEGER; END; Q* = POINTER TO S; VAR q*: Q; PROCEDURE Go*; BEGIN Low.Go; Low.Up(Low.c); NEW(q); IF Low.Of() IS Q THEN OUT(q.w) END END Go; BEGIN Low.Go END Mid."
	high = "MODULE High; IMPORT Mid; VAR k: INTEGER; PROCEDURE Go*; BEGIN Mid.Go; k := Mid.q.v; WHILE k > 0 DO k := k - 1 END END Go; END High."
	side = "MODULE Side; PROCEDURE Go*; BEGIN END Go; END Side."
)

// compiled are the objects of texts that are right.
func compiled(t *testing.T, texts ...string) [][]byte {
	t.Helper()
	l, err := gen.Compile(texts)
	if err != nil || len(l) != len(texts) {
		t.Fatalf("%d objects, %v of %q", len(l), err, texts)
	}
	return l
}

// loaded are objects put together that must fit.
func loaded(t *testing.T, objects ...[]byte) *link.Image {
	t.Helper()
	image, err := link.Load(objects)
	if image == nil || err != nil {
		t.Fatalf("%v, %v", image, err)
	}
	return image
}

// refused holds what Load says against what is wanted, at an object.
func refused(t *testing.T, e api.Errno, at int, objects ...[]byte) {
	t.Helper()
	image, err := link.Load(objects)
	fault, ok := err.(*api.Fault)
	if image != nil || !ok || fault.Err != e || fault.Text != at || fault.At != 0 {
		t.Fatalf("%v, %v, wanted %d in %d at 0", image, err, e, at)
	}
}

// changed is a text in which something stands instead of something else.
func changed(t *testing.T, text, old, new string) string {
	t.Helper()
	if !strings.Contains(text, old) {
		t.Fatalf("%q doesn't stand in %q", old, text)
	}
	return strings.Replace(text, old, new, 1)
}

// J1: objects of Compile, in order, are loaded; also none, and as many as may be.
func TestLoaded(t *testing.T) {
	loaded(t)
	for _, texts := range [][]string{
		{low}, {low, mid}, {low, mid, high}, {side, low, mid, high}, {low, side, mid, high},
		{low, mid, high, side, "MODULE A; END A.", "MODULE B; IMPORT A, Low; END B."},
	} {
		image := loaded(t, compiled(t, texts...)...)
		if len(image.Modules) != len(texts) {
			t.Errorf("%d modules of %q", len(image.Modules), texts)
		}
	}
}

// J1: more than MaxModules: ErrLimit, whatever they are.
func TestTooMany(t *testing.T) {
	l := compiled(t, low, mid, high, side, "MODULE A; END A.", "MODULE B; END B.")
	for _, objects := range [][][]byte{
		make([][]byte, api.MaxModules+1),
		append(slices.Clone(l), compiled(t, "MODULE C; END C.")...),
		append(slices.Clone(l), l[0]),
		slices.Repeat(l, 20),
	} {
		if image, err := link.Load(objects); image != nil || err != api.ErrLimit {
			t.Errorf("%v, %v", image, err)
		}
	}
}

// J1: an object with one byte that is another one is none.
func TestByte(t *testing.T) {
	l := compiled(t, low, mid, high)
	for number, object := range l {
		for i := range object {
			for change := 1; change < 256; change++ {
				other := slices.Clone(object)
				other[i] ^= byte(change)
				objects := slices.Clone(l)
				objects[number] = other
				refused(t, api.ErrForm, number, objects...)
			}
		}
	}
}

// J1: an object that is cut short is none, nor is nothing, nor a text.
func TestCutShort(t *testing.T) {
	l := compiled(t, low, mid, high)
	for number, object := range l {
		for i := range object {
			objects := slices.Clone(l)
			objects[number] = object[:i]
			refused(t, api.ErrForm, number, objects...)
			objects[number] = object[:i:i]
			refused(t, api.ErrForm, number, objects...)
		}
	}
	refused(t, api.ErrForm, 0, nil)
	refused(t, api.ErrForm, 0, []byte{})
	refused(t, api.ErrForm, 0, []byte(low))
	refused(t, api.ErrForm, 1, l[0], []byte("obj1"))
}

// J1: of the same module as one ahead: ErrTwice, also if it is of another text, or has another face.
func TestTwice(t *testing.T) {
	l := compiled(t, low, mid)
	refused(t, api.ErrTwice, 1, l[0], l[0])
	refused(t, api.ErrTwice, 2, l[0], l[1], l[0])
	refused(t, api.ErrTwice, 2, l[0], l[1], l[1])
	refused(t, api.ErrTwice, 1, l[0], compiled(t, "MODULE Low; END Low.")[0])
	refused(t, api.ErrTwice, 3, append(compiled(t, side, low, mid), compiled(t, changed(t, side, "Go*", "Go"))...)...)
}

// J1: a module that is leaned on must be ahead: ErrName.
func TestName(t *testing.T) {
	l := compiled(t, low, mid, high)
	refused(t, api.ErrName, 0, l[1])
	refused(t, api.ErrName, 0, l[1], l[0])
	refused(t, api.ErrName, 0, l[2])
	refused(t, api.ErrName, 1, l[0], l[2])
	refused(t, api.ErrName, 1, l[0], l[2], l[1])
	refused(t, api.ErrName, 0, l[2], l[1], l[0])
	refused(t, api.ErrName, 1, compiled(t, side)[0], l[1])
	both := compiled(t, low, side, "MODULE M; IMPORT Low, Side; END M.")
	refused(t, api.ErrName, 1, both[0], both[2])
	refused(t, api.ErrName, 1, both[1], both[2])
	loaded(t, both[1], both[0], both[2])
}

// J1: a module leans on those, too, on which those lean that it imports. (This Mid doesn't import Low, and shows the same.)
func TestLeansOnThrough(t *testing.T) {
	through := "MODULE Mid; IMPORT Low; PROCEDURE Go*; BEGIN Low.Go END Go; END Mid."
	alone := "MODULE Mid; PROCEDURE Go*; BEGIN END Go; END Mid."
	user := "MODULE M; IMPORT Mid; BEGIN Mid.Go END M."
	l := compiled(t, low, through, user)
	without := compiled(t, alone, user)
	loaded(t, l...)
	loaded(t, without...)
	loaded(t, l[0], without[0], l[2])
	loaded(t, l[0], l[1], without[1])
	refused(t, api.ErrName, 1, without[0], l[2])
}

// J1: a module that is leaned on must have the face that it had: ErrKey.
func TestKey(t *testing.T) {
	l := compiled(t, low, mid, high)
	for _, other := range []string{
		changed(t, low, "c* = 3", "c* = 4"),
		changed(t, low, "v*: INTEGER", "v*: BOOLEAN"),
		changed(t, low, "v*: INTEGER", "v*: INTEGER; h: INTEGER"),
		changed(t, low, "VAR i: INTEGER; ", "VAR i: INTEGER; j: INTEGER; "),
		changed(t, low, "PROCEDURE help", "PROCEDURE help*"),
		changed(t, low, "Up*(x", "Up*(y: INTEGER; x"),
		"MODULE Low; END Low.",
	} {
		refused(t, api.ErrKey, 1, compiled(t, other)[0], l[1])
		refused(t, api.ErrKey, 1, compiled(t, other)[0], l[1], l[2])
		refused(t, api.ErrKey, 2, compiled(t, other, side)[0], compiled(t, other, side)[1], l[1])
	}
	other := compiled(t, low, changed(t, mid, "VAR q", "VAR r: Q; q"))
	refused(t, api.ErrKey, 2, other[0], other[1], l[2])
	loaded(t, other[0], l[1], l[2])
}

// J1: and so must one that is leaned on through others, though these have the same faces.
func TestKeyThrough(t *testing.T) {
	l := compiled(t, low, mid, high)
	other := changed(t, low, "c* = 3", "c* = 4")
	m := compiled(t, other, mid, high)
	loaded(t, m...)
	refused(t, api.ErrKey, 2, m[0], m[1], l[2])
	refused(t, api.ErrKey, 2, l[0], l[1], m[2])
	refused(t, api.ErrKey, 1, m[0], l[1], m[2])
}

// J1: of several errors of an object the first that is named is told; of several objects the first one's.
func TestFirst(t *testing.T) {
	l := compiled(t, low, mid, high)
	broken := slices.Clone(l[1])
	broken[20]++
	refused(t, api.ErrForm, 1, l[0], broken, l[0])
	refused(t, api.ErrTwice, 1, l[0], l[0], broken)
	refused(t, api.ErrName, 0, l[1], broken)
	refused(t, api.ErrForm, 0, broken, l[1])
	refused(t, api.ErrForm, 2, l[0], l[1], broken)

	changedLow := compiled(t, changed(t, low, "c* = 3", "c* = 4"))[0]
	refused(t, api.ErrKey, 1, changedLow, l[1], broken)
	twice := compiled(t, side, "MODULE Mid; IMPORT Side; END Mid.")
	refused(t, api.ErrTwice, 2, l[0], l[1], twice[1])
	refused(t, api.ErrTwice, 2, twice[0], twice[1], l[1])
	both := compiled(t, low, side, "MODULE M; IMPORT Low, Side; END M.")
	refused(t, api.ErrName, 1, changedLow, both[2])
	otherSide := compiled(t, changed(t, side, "Go*", "Go"))[0]
	refused(t, api.ErrName, 1, otherSide, both[2])
	refused(t, api.ErrKey, 2, both[0], otherSide, both[2])
	refused(t, api.ErrKey, 2, changedLow, both[1], both[2])
	refused(t, api.ErrTwice, 1, changedLow, compiled(t, "MODULE Low; END Low.")[0], l[1])
}

// J1: objects of other texts are loaded, too, if these have the same faces.
func TestOtherTexts(t *testing.T) {
	l := compiled(t, low, mid, high)
	lows := []string{
		changed(t, low, "i := c", "i := 0"),
		changed(t, low, "PROCEDURE help;", "PROCEDURE more; BEGIN END more; PROCEDURE help; VAR z: INTEGER;"),
		changed(t, low, "p*: P;", "p*: P; q: P;"),
		changed(t, low, "c* = 3", "c* = 1 + 2"),
	}
	mids := []string{
		changed(t, mid, "BEGIN Low.Go END Mid.", "END Mid."),
		changed(t, mid, "IMPORT Low", "IMPORT Side, Low"),
	}
	for _, other := range lows {
		m := compiled(t, other, mid, high)
		loaded(t, m[0], l[1], l[2])
		loaded(t, l[0], m[1], m[2])
		loaded(t, m[0], m[1], l[2])
		for _, another := range mids {
			n := compiled(t, side, other, another, high)
			loaded(t, n[0], l[0], n[2], l[2])
			loaded(t, n[0], n[1], l[1], n[3])
			loaded(t, n[0], n[1], n[2], l[2])
		}
	}
}

// Z2: neither the list nor the objects are changed, or kept.
func TestNothingKept(t *testing.T) {
	l := compiled(t, low, mid, high)
	before := fmt.Sprint(l)
	first, second := loaded(t, l...), loaded(t, l...)
	if fmt.Sprint(l) != before {
		t.Error("objects were changed")
	}
	told := fmt.Sprint(*second)
	for _, object := range l {
		clear(object)
	}
	clear(first.Code)
	clear(first.Records)
	for _, r := range first.Records {
		clear(r.Points)
	}
	if fmt.Sprint(*second) != told {
		t.Error("images share memory with objects, or with each other")
	}
}
