package gen_test

import (
	"bytes"
	"fmt"
	"slices"
	"strings"
	"testing"

	"oberlin/api"
	"oberlin/check"
	"oberlin/face"
	"oberlin/gen"
)

// Modules: Mid imports Low, High imports Mid, Side imports nothing.
const (
	low  = "MODULE Low; CONST c* = 3; hid = 4; TYPE P* = POINTER TO R; R* = RECORD v*: INTEGER; h: INTEGER; n*: P; END; VAR p*: P; last: INTEGER; PROCEDURE help(x: INTEGER): INTEGER; BEGIN RETURN x + hid END help; PROCEDURE Up*(VAR i: INTEGER); BEGIN i := help(i); last := i END Up; PROCEDURE Down*; BEGIN p := NIL END Down; BEGIN last := hid END Low."
	mid  = "MODULE Mid; IMPORT Low; CONST d* = Low.c + 1; TYPE Big* = RECORD (Low.R) w*: Low.P; END; Q* = POINTER TO Big; Row = ARRAY 3 OF Q; VAR row: Row; q*: Q; PROCEDURE inner; BEGIN Low.Down END inner; PROCEDURE Make*(): Q; VAR r: Q; BEGIN NEW(r); r.v := d; inner; RETURN r END Make; BEGIN NEW(Low.p) END Mid."
	high = "MODULE High; IMPORT Mid; TYPE Own = RECORD (Mid.Big) m: Mid.Q; END; PO = POINTER TO Own; VAR i: INTEGER; o: PO; PROCEDURE Go*; BEGIN Mid.q := Mid.Make(); NEW(o); o.w := Mid.q; i := Mid.q.v + Mid.d; IF o.w IS Mid.Q THEN OUT(o.w{Mid.Q}.n.v) END END Go; END High."
	side = "MODULE Side; VAR s*: INTEGER; PROCEDURE Go*; BEGIN s := s + 1 END Go; END Side."
)

// compiled are the objects of texts that are right.
func compiled(t *testing.T, texts ...string) [][]byte {
	t.Helper()
	l, err := gen.Compile(texts)
	if err != nil || len(l) != len(texts) {
		t.Fatalf("%d objects, %v of %q", len(l), err, texts)
	}
	return l
}

// lastOf is the object of the last of the texts.
func lastOf(t *testing.T, texts ...string) []byte {
	t.Helper()
	return compiled(t, texts...)[len(texts)-1]
}

// I1: what Check says, and no objects then.
func TestWhatCheckSays(t *testing.T) {
	for _, texts := range [][]string{
		{"MODULE M; BEGIN x := 1 + END M."},
		{"MODULE M; VAR i: INTEGER; BEGIN i := TRUE END M."},
		{""},
		{low, ""},
		{low, low},
		{mid, low},
		{mid},
		{low, high},
		{low, "MODULE M; IMPORT Low; BEGIN Low.hid END M."},
		{low, "MODULE M; IMPORT Low, Low; END M."},
		{strings.Repeat(" ", api.MaxText) + low},
		slices.Repeat([]string{""}, api.MaxModules+1),
		{side, low, mid, high, "MODULE A; END A.", "MODULE B; END B.", "MODULE C; END C."},
	} {
		want := check.Check(texts)
		got, err := gen.Compile(texts)
		if want == nil || fmt.Sprint(err) != fmt.Sprint(want) || len(got) > 0 {
			t.Errorf("%q: %d objects, %v, wanted %v", texts, len(got), err, want)
		}
		a, b, c := api.Tell(err)
		if d, e, f := api.Tell(want); a != d || b != e || c != f {
			t.Errorf("%q: %d in %d at %d, wanted %d in %d at %d", texts, a, b, c, d, e, f)
		}
	}
}

// I1: an object of each module; none of none.
func TestEach(t *testing.T) {
	compiled(t)
	compiled(t, low)
	compiled(t, side, low, mid, high, "MODULE A; END A.", "MODULE B; END B.")
	for i, l := range compiled(t, low, side, mid) {
		o, err := gen.Read(l)
		if want := []string{"Low", "Side", "Mid"}[i]; err != nil || o.Name != want {
			t.Errorf("%v, %v, wanted %s", o, err, want)
		}
	}
}

// I1, Z2: the same texts make the same objects, each time in new memory.
func TestSame(t *testing.T) {
	texts := []string{low, mid, side, high}
	first := compiled(t, texts...)
	for range 20 {
		again := compiled(t, texts...)
		for i := range first {
			if !bytes.Equal(first[i], again[i]) {
				t.Fatalf("%q: another object", texts[i])
			}
			clear(again[i])
			_ = append(again[i], 1, 2, 3)
		}
	}
}

// I1: modules that are neither imported nor imported by what is don't matter, nor does where a module stands.
func TestOthersThatAreNotImported(t *testing.T) {
	want := compiled(t, low, mid, high)
	for _, texts := range [][]string{
		{side, low, mid, high},
		{low, side, mid, high},
		{low, mid, side, high},
		{low, mid, high, side},
		{"MODULE A; CONST c* = 1; END A.", "MODULE Z; IMPORT A; TYPE R* = RECORD END; END Z.", low, side, mid, high},
		{low, "MODULE A; IMPORT Low; TYPE R* = RECORD (Low.R) END; PROCEDURE P*; BEGIN END P; END A.", mid, high},
	} {
		got := compiled(t, texts...)
		for i, text := range []string{low, mid, high} {
			if at := slices.Index(texts, text); !bytes.Equal(got[at], want[i]) {
				t.Errorf("object %d of %q is another one", at, texts)
			}
		}
	}
}

// I1: in which order others stand, or are imported by those that are imported, shows in no face.
func TestOrder(t *testing.T) {
	a, b := "MODULE A; TYPE R* = RECORD a*: INTEGER; END; VAR a*: R; PROCEDURE P*; BEGIN END P; END A.", "MODULE B; TYPE S* = RECORD b*: BOOLEAN; END; VAR b*: S; PROCEDURE P*; BEGIN END P; END B."
	through := "MODULE T; IMPORT A, B; TYPE R* = RECORD r*: A.R; s*: B.S; END; P* = POINTER TO R; VAR t*: P; END T."
	user := "MODULE U; IMPORT T, B; BEGIN NEW(T.t); OUT(T.t.r.a); B.P END U."
	want := lastOf(t, a, b, through, user)
	for _, texts := range [][]string{
		{b, a, through, user},
		{a, b, strings.Replace(through, "A, B", "B, A", 1), user},
		{b, a, strings.Replace(through, "A, B", "B, A", 1), user},
	} {
		if got := lastOf(t, texts...); !bytes.Equal(got, want) {
			t.Errorf("the last object of %q is another one", texts)
		}
	}
}

// change: pairs of what stands in a text and what shall stand there instead.
type change []string

func (c change) of(t *testing.T, text string) string {
	t.Helper()
	for part := range slices.Chunk(c, 2) {
		if !strings.Contains(text, part[0]) {
			t.Fatalf("%q doesn't stand in %q", part[0], text)
		}
	}
	return strings.NewReplacer(c...).Replace(text)
}

// I1: a module's object hangs on the faces of others alone: what these hide doesn't matter to it.
func TestWhatIsNotShown(t *testing.T) {
	want := compiled(t, low, mid, high)
	for _, c := range []change{
		{"MODULE Low", "(* a remark *) MODULE Low"},
		{"hid = 4", "hid = 5"},
		{"hid = 4", "hid = 4; hid2 = TRUE"},
		{"hid = 4;", "", "hid", "c"},
		{"c* = 3", "c* = 7 - 4"},
		{"last: INTEGER", "last: INTEGER; more: R; all: P"},
		{"PROCEDURE help", "PROCEDURE first; BEGIN END first; PROCEDURE help"},
		{"PROCEDURE help(x: INTEGER): INTEGER; BEGIN RETURN x + hid END help; ", "", "help(i)", "i"},
		{"i := help(i)", "i := 3"},
		{"BEGIN last := hid END", "END"},
		{"Down*; BEGIN", "Down*; VAR z: R; y: P; BEGIN NEW(y); z := y^; OUT(z.v);"},
		{"(VAR i: INTEGER)", "(VAR n: INTEGER)", "i := help(i); last := i", "n := help(n); last := n"},
	} {
		other := c.of(t, low)
		sameFace(t, []string{low}, []string{other})
		got := compiled(t, other, mid, high)
		if !bytes.Equal(got[1], want[1]) || !bytes.Equal(got[2], want[2]) {
			t.Errorf("%q: other objects of those that import it", c)
		}
	}
	for _, c := range []change{
		{"q*: Q;", "q*: Q; more: Row;"},
		{"PROCEDURE inner; BEGIN Low.Down END inner; ", "", "inner;", "Low.Down;"},
		{"NEW(Low.p)", "NEW(q)"},
	} {
		other := c.of(t, mid)
		sameFace(t, []string{low, mid}, []string{low, other})
		if got := lastOf(t, low, other, high); !bytes.Equal(got, want[2]) {
			t.Errorf("%q: another object of High", c)
		}
	}
}

// sameFace says that the last ones of texts have one face; else what is held against each other by it would say nothing.
func sameFace(t *testing.T, texts, others []string) {
	t.Helper()
	a, err1 := face.Of(texts, len(texts)-1)
	b, err2 := face.Of(others, len(others)-1)
	if err1 != nil || err2 != nil || a != b {
		t.Fatalf("%s%v, and of %q\n%s%v", a, err1, others, b, err2)
	}
}

// J1 asks it of objects: with another face of a module that is leaned on, an object is another one; of one that isn't, it is the same.
func TestWhatIsShown(t *testing.T) {
	want := compiled(t, low, side, mid, high)
	for _, c := range []change{
		{"c* = 3", "c* = 2"},
		{"hid = 4", "hid* = 4"},
		{"h: INTEGER", "h: BOOLEAN"},
		{"h: INTEGER", "h*: INTEGER"},
		{"R* = RECORD", "E = RECORD END; R* = RECORD"},
		{"VAR p*", "VAR first: INTEGER; p*"},
		{"PROCEDURE help", "PROCEDURE help*"},
		{"PROCEDURE Down*", "PROCEDURE Over*; BEGIN END Over; PROCEDURE Down*"},
	} {
		got := compiled(t, c.of(t, low), side, mid, high)
		for i, leans := range []bool{true, false, true, true} {
			if bytes.Equal(got[i], want[i]) == leans {
				t.Errorf("%q: object %d: the same: %v", c, i, !leans)
			}
		}
	}
}

// I1: an object names all modules that it leans on, and their keys, in the order of the names.
func TestLeans(t *testing.T) {
	texts := []string{side, low, mid, high}
	want := map[string][]string{"Side": nil, "Low": nil, "Mid": {"Low"}, "High": {"Low", "Mid"}}
	keys := map[string]int{}
	for i, l := range compiled(t, texts...) {
		o, err := gen.Read(l)
		if err != nil {
			t.Fatal(err)
		}
		key, err := face.Key(texts, i)
		if err != nil || o.Key != key {
			t.Errorf("%s: %d, wanted %d, %v", o.Name, o.Key, key, err)
		}
		keys[o.Name] = key
		var names []string
		for _, x := range o.Leans {
			names = append(names, x.Name)
			if x.Key != keys[x.Name] {
				t.Errorf("%s: %s has %d, wanted %d", o.Name, x.Name, x.Key, keys[x.Name])
			}
		}
		if !slices.Equal(names, want[o.Name]) {
			t.Errorf("%s leans on %v, wanted %v", o.Name, names, want[o.Name])
		}
	}
}

// I1: no object has more than 2^20 bytes, whatever its text is full of.
func TestSize(t *testing.T) {
	const most = 1 << 20
	points := "TYPE P = POINTER TO E; E = RECORD END; A = ARRAY 64 OF P; B = ARRAY 8 OF A; R = RECORD b: B; END;"
	for _, x := range []struct{ begin, again, end string }{
		{"MODULE M; " + points, "R%d=RECORD(R)END;", "END M."},
		{"MODULE M; " + points, "R%d=RECORD b:B;END;", "END M."},
		{"MODULE M; " + points + " VAR b:B;", "PROCEDURE p%d;VAR b:B;BEGIN END p%[1]d;", "END M."},
		{"MODULE M; PROCEDURE p; BEGIN END p; BEGIN ", "p;", "p END M."},
		{"MODULE M; VAR i:INTEGER; BEGIN ", "i:=-1-1-1-1-1-1-1-1-1-1-1-1-1-1-1-1;", "END M."},
		{"MODULE M; VAR i:INTEGER; BEGIN ", "i:=i+i+i+i+i+i+i+i+i+i+i+i+i+i+i+i;", "END M."},
		{"MODULE M; VAR b:BOOLEAN; BEGIN ", "b:=b&b&b&b&b&b&b&b&b&b&b&b&b&b&b&b;", "END M."},
		{"MODULE M; TYPE P=POINTER TO R; R=RECORD p:P;END; VAR p:P; BEGIN ", "p:=p.p.p.p.p.p.p.p.p.p.p.p.p.p.p.p;", "END M."},
		{"MODULE M; TYPE P=POINTER TO R; R=RECORD p:P;END; VAR p:P; BEGIN ", "p:=p{P}{P}{P}{P}{P}{P}{P}{P}{P}{P}{P};", "END M."},
		{"MODULE M; VAR b:BOOLEAN; BEGIN IF b THEN ", "ELSIF b THEN ", "END END M."},
		{"MODULE M; ", "PROCEDURE p%d*;BEGIN END p%[1]d;", "END M."},
		{"MODULE M; VAR ", "v%d:INTEGER;", "END M."},
		{"MODULE M; BEGIN ", "OUT(-2147483647);", "END M."},
	} {
		text := x.begin
		for i := 0; ; i++ {
			part := x.again
			if strings.Contains(part, "%") {
				part = fmt.Sprintf(part, i)
			}
			if len(text)+len(part)+len(x.end) > api.MaxText {
				break
			}
			text += part
		}
		if l := lastOf(t, text+x.end); len(l) > most {
			t.Errorf("%s%s..: %d bytes", x.begin, x.again, len(l))
		}
	}
}
