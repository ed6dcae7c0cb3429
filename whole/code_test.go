package whole

import (
	"bytes"
	"fmt"
	"math/rand"
	"slices"
	"strings"
	"testing"

	"oberlin/api"
	"oberlin/check"
	"oberlin/drive"
	"oberlin/face"
	"oberlin/gen"
	"oberlin/mean"
	"oberlin/parse"
)

// compile makes the objects of texts that are right.
func compile(t *testing.T, texts []string) [][]byte {
	t.Helper()
	objects, err := gen.Compile(texts)
	if err != nil || len(objects) != len(texts) {
		t.Fatalf("%v, %d objects of\n%s", err, len(objects), strings.Join(texts, "\n"))
	}
	return objects
}

// doesTheSame holds what code does against what trees do, and tells it.
func doesTheSame(t *testing.T, texts []string, objects [][]byte, heap int, script []api.Deed) []api.Event {
	t.Helper()
	trees, err := mean.Run(texts, heap, script)
	if err != nil || len(trees) != len(texts)+len(script) {
		t.Fatalf("%v, %d events of\n%s", err, len(trees), strings.Join(texts, "\n"))
	}
	code, err := drive.Run(objects, heap, script)
	if err != nil || fmt.Sprint(trees) != fmt.Sprint(code) {
		t.Fatalf("trees: %v\ncode: %v, %v\n%s", trees, code, err, strings.Join(texts, "\n"))
	}
	return trees
}

// The second point: code does what trees do, to the last number, the trap, and the words of the heap.
func TestCode(t *testing.T) {
	ends := map[int]int{}
	for seed := range int64(drawn) {
		texts, commands := draw(seed)
		objects := compile(t, texts)
		deeds := collecting(seed, script(seed, commands))
		for _, heap := range []int{20, 400, api.MaxHeap} {
			for _, e := range doesTheSame(t, texts, objects, heap, deeds) {
				ends[e.Trap]++
			}
		}
	}
	for end := api.Ended; end <= api.TrapResult; end++ {
		if ends[end] == 0 {
			t.Errorf("no command ended with %d", end)
		}
	}
}

// odd: a module with what drawn ones seldom have: things without words, and things that it hides.
const odd = `MODULE A;
CONST c* = -7; yes* = TRUE;
TYPE E* = RECORD END; PE* = POINTER TO E; Es* = ARRAY 64 OF E;
  P* = POINTER TO R; R* = RECORD (E) v*: INTEGER; h: INTEGER; n*: P; END; Row* = ARRAY 3 OF R; Rows* = ARRAY 2 OF Row;
VAR hid: INTEGER; r*: R; rows*: Rows; e*: E; p*: P; es*: Es; last*: E;
PROCEDURE hide; BEGIN hid := hid + 1; OUT(hid) END hide;
PROCEDURE Say*(x: INTEGER): INTEGER; BEGIN hide; OUT(x); RETURN x END Say;
PROCEDURE Set*(VAR r: R; x: INTEGER); BEGIN r.v := x; r.h := x + 1; OUT(r.h) END Set;
PROCEDURE Void*(VAR e: E); BEGIN END Void;
PROCEDURE Own*(): P; VAR q: P; BEGIN NEW(q); q.h := 5; q.n := p; p := q; RETURN q END Own;
END A.`

// oddUser: the beginning of one that uses it.
const oddUser = `MODULE M; IMPORT A;
TYPE S = RECORD (A.R) own: INTEGER; END; Q = POINTER TO S;
VAR row: A.Row; s: S; q: Q; e: A.E; pe: A.PE; b: BOOLEAN; i: INTEGER;
PROCEDURE hides(A: INTEGER); VAR i: INTEGER; BEGIN i := A; OUT(i) END hides;
PROCEDURE loop(x: INTEGER): INTEGER;
BEGIN WHILE x > 0 DO REPEAT IF x = 2 THEN RETURN x * 10 END; x := x - 1 UNTIL TRUE END END loop;
PROCEDURE fac(x: INTEGER): INTEGER; BEGIN i := i + 1; IF x < 2 THEN RETURN 1 END; RETURN x * fac(x - 1) END fac;
PROCEDURE swap(VAR x: INTEGER; VAR y: INTEGER); VAR t: INTEGER; BEGIN t := x; x := y + 1; y := t + 2 END swap;
`

// The second point, where drawn programs seldom come to.
func TestCodeOf(t *testing.T) {
	for _, acts := range []string{
		"A.last := A.e; A.es[63] := A.last; A.Void(A.es[3]); A.Void(e); A.Void(A.last); e := A.es[i]; OUT(1)",
		"A.es[64] := e",
		"NEW(pe); pe^ := e; e := pe^; A.Void(pe^); OUT(1); NEW(pe)",
		"A.Void(pe^)",
		"i := A.Say(1) + A.Say(2) * A.Say(3); OUT(i); OUT(A.Say(i) DIV A.Say(0))",
		"row[A.Say(1)].v := A.Say(2); OUT(row[1].v); row[A.Say(3)].v := A.Say(4)",
		"b := (A.Say(1) = 1) OR (A.Say(2) = 2); b := (A.Say(1) = 2) & (A.Say(2) = 2); b := ~(b OR b) & b OR ~b; IF b THEN OUT(7) END",
		"A.Set(row[1], 4); OUT(row[1].v); A.Set(s, 8); OUT(s.v + s.own); A.Set(A.rows[1][2], 9); OUT(A.rows[1][2].v); A.rows[0] := A.rows[1]; OUT(A.rows[0][2].v); A.rows[0][1] := A.r",
		"NEW(q); q.v := 3; q.own := 4; A.p := q; OUT(A.p.v); OUT(A.p{Q}.own); A.r := A.p^; OUT(A.r.v); IF A.p IS Q THEN OUT(1) END; NEW(A.p); IF A.p IS Q THEN OUT(2) END; OUT(A.p{Q}.own)",
		"A.p := A.Own(); A.p := A.Own(); OUT(A.p.n.v); A.p := A.p.n; OUT(A.p.n.n.v)",
		"OUT(A.c); OUT(A.c DIV 2); OUT(A.c MOD 2); OUT(-A.c); IF A.yes THEN OUT(-2147483647 - 1 - 1) END",
		"WHILE i < 5 DO i := i + 1; IF i = 3 THEN RETURN ELSIF i = 1 THEN OUT(1) ELSE OUT(2) END END; OUT(9)",
		"REPEAT i := i + 1; OUT(i) UNTIL (i > 3) OR (A.Say(i) < 0)",
		"hides(4); OUT(i); OUT(loop(3)); OUT(loop(0))",
		"OUT(fac(5)); OUT(fac(38)); OUT(i); OUT(fac(41))",
		"WHILE TRUE DO i := i + 1 END", "REPEAT i := i + 1 UNTIL FALSE", "WHILE i < 2000 DO i := i + 1 END; OUT(i); hides(1)",
		"swap(i, i); swap(row[0].v, row[1].v); NEW(A.p); swap(A.p.v, i); OUT(A.p.v); OUT(i); swap(i, row[3].v)",
		"GET(i); GET(row[A.Say(1)].v); OUT(i - row[1].v); GET(i); OUT(i); GET(A.p.v)",
		"WHILE i < 9 DO NEW(q); q.n := A.p; A.p := q; i := i + 1; OUT(i) END; A.p := A.p.n.n.n",
		"ASSERT(i = 0); ASSERT(A.p = NIL); ASSERT(A.p # q)", "NEW(q); A.p := q; ASSERT(A.p = q); ASSERT(q # NIL); ASSERT(A.p = A.p.n)",
	} {
		texts := []string{odd, oddUser + "PROCEDURE Do*; BEGIN " + acts + " END Do; BEGIN " + acts + " END M."}
		do := api.Deed{Module: "M", Proc: "Do", Input: []int{-2147483648, 2147483647}}
		for _, heap := range []int{0, 1, 30, 60} {
			doesTheSame(t, texts, compile(t, texts), heap, []api.Deed{do, {}, do, {Module: "M", Proc: "hides"}, {Module: "A", Proc: "hide"}, do, {}})
		}
	}
}

// The document's example, by its code.
func TestExample(t *testing.T) {
	l := "MODULE L;\nCONST two* = 1 + 1;\nTYPE P* = POINTER TO R; R* = RECORD v*: INTEGER; n*: P; END; Big = RECORD (R) more: INTEGER; END;\nVAR p*: P;\nPROCEDURE Push*(x: INTEGER); VAR q: P;\nBEGIN NEW(q); q.v := x; q.n := p; p := q END Push;\nEND L.\n"
	m := "MODULE M; IMPORT L; VAR i: INTEGER;\nPROCEDURE Go*;\nBEGIN GET(i); WHILE i > 0 DO L.Push(i * L.two); i := i - 1 END; OUT(L.p.v + 2 * 3); L.p := L.p.n\nEND Go; END M.\n"
	deeds := []api.Deed{{Module: "M", Proc: "Go", Input: []int{5}}, {Module: "M", Proc: "Go", Input: []int{2}}, {}, {Module: "M", Proc: "Nix"}}
	got := doesTheSame(t, []string{l, m}, compile(t, []string{l, m}), 20, deeds)
	if want := "[{0 [] 0} {0 [] 0} {0 [8] 15} {8 [] 18} {0 [] 15} {9 [] 15}]"; fmt.Sprint(got) != want {
		t.Errorf("%v, wanted %s", got, want)
	}
}

// rewritten is another text with the same face: its acts go the other way round, and it has more that it hides.
func rewritten(t *testing.T, text string) string {
	t.Helper()
	n, err := parse.Parse(strings.Replace(text, "PROCEDURE", "PROCEDURE zero; BEGIN END zero;\nPROCEDURE", 1))
	if err != nil {
		return text // that would be too long
	}
	turn(n.Subs[5].Subs)
	for _, x := range n.Subs[4].Subs {
		turn(x.Subs[3].Subs)
	}
	if s := textOf(t, n); s != "" {
		return s
	}
	return text
}

// turn lets acts go the other way round.
func turn(l []api.Node) {
	slices.Reverse(l)
	for _, n := range l {
		if n.Kind == api.If || n.Kind == api.While || n.Kind == api.Repeat {
			for _, x := range n.Subs {
				if x.Kind == api.List {
					turn(x.Subs)
				}
			}
		}
	}
}

// The third point: what is not shown doesn't matter to another module's code: modules of other texts with the same faces have the same objects, and run with those of the first ones as if all were compiled at once.
func TestOtherTexts(t *testing.T) {
	others := 0
	for seed := range int64(drawn) {
		texts, commands := draw(seed)
		other := make([]string, len(texts))
		for i, text := range texts {
			if other[i] = rewritten(t, text); other[i] != text {
				others++
			}
		}
		mixes(t, seed, [2][]string{texts, other}, script(seed, commands))
	}
	if others < drawn {
		t.Errorf("only %d texts were rewritten", others)
	}
}

// mixes draws for each module one of two texts, and holds what the objects do against what the texts do.
func mixes(t *testing.T, seed int64, texts [2][]string, deeds []api.Deed) {
	t.Helper()
	r := rand.New(rand.NewSource(seed))
	objects := [2][][]byte{compile(t, texts[0]), compile(t, texts[1])}
	var mixed []string
	var mix [][]byte
	for i := range texts[0] {
		which := r.Intn(2)
		mixed, mix = append(mixed, texts[which][i]), append(mix, objects[which][i])
	}
	for i, l := range compile(t, mixed) {
		a, _ := face.Of(texts[0], i)
		b, err := face.Of(mixed, i)
		if a != b || err != nil {
			t.Fatalf("%d has another face: %v\n%s", i, err, mixed[i])
		}
		if !bytes.Equal(l, mix[i]) {
			t.Fatalf("%d has another object among\n%s", i, strings.Join(mixed, "\n"))
		}
	}
	doesTheSame(t, mixed, mix, 200, deeds)
}

// The third point: no module runs with one that shows other things than it was made with, nor with broken ones.
func TestOtherFaces(t *testing.T) {
	for seed := range int64(drawn) {
		texts, _ := draw(seed)
		objects := compile(t, texts)
		r := rand.New(rand.NewSource(seed))
		k := r.Intn(len(texts))
		mix := slices.Clone(objects)
		shown := slices.Clone(texts)
		shown[k] = strings.Replace(texts[k], "\nTYPE", fmt.Sprintf(" new* = %d;\nTYPE", seed), 1)
		if check.Check(shown) == nil {
			mix[k] = compile(t, shown)[k]
			says(t, mix, k+1, api.ErrKey)
		}
		mix[k] = slices.Clone(objects[k])
		mix[k][r.Intn(len(mix[k]))] ^= byte(1 + r.Intn(255))
		says(t, mix, k, api.ErrForm)
		mix[k] = objects[k][:r.Intn(len(objects[k]))]
		says(t, mix, k, api.ErrForm)
		says(t, slices.Delete(slices.Clone(objects), k, k+1), k, api.ErrName)
		says(t, append(slices.Clone(objects), objects[k]), len(objects), api.ErrTwice)
	}
}

// says holds what Run says against an error at an object; all are well, if there is no such object. (Each drawn module imports all ahead.)
func says(t *testing.T, objects [][]byte, at int, want api.Errno) {
	t.Helper()
	_, err := drive.Run(objects, 20, nil)
	e, text, place := api.Tell(err)
	if at == len(objects) && e == api.OK {
		return
	}
	if e != want || text != at || place != 0 {
		t.Fatalf("%v, wanted %v in %d", err, want, at)
	}
}

// The second point, of texts that are found.
func FuzzCode(f *testing.F) {
	for seed := range int64(20) {
		texts, _ := draw(seed)
		f.Add(texts[0], texts[len(texts)-1], 100)
	}
	f.Fuzz(func(t *testing.T, a, b string, heap int) {
		texts := []string{a, b}
		want := check.Check(texts)
		objects, err := gen.Compile(texts)
		if fmt.Sprint(err) != fmt.Sprint(want) || (err == nil) != (len(objects) == 2) {
			t.Fatalf("%d objects, %v, wanted %v", len(objects), err, want)
		}
		if err == nil {
			doesTheSame(t, texts, objects, max(0, min(heap, api.MaxHeap)), commandsOf(t, texts))
		}
	})
}

// commandsOf is a script of all that texts export, with collections.
func commandsOf(t *testing.T, texts []string) (l []api.Deed) {
	t.Helper()
	modules, err := check.Modules(texts)
	if err != nil {
		t.Fatal(err)
	}
	for _, m := range modules {
		for _, x := range m.Declared {
			if len(l)+2 <= api.MaxDeeds {
				l = append(l, api.Deed{Module: m.Name, Proc: x.Name, Input: []int{3, 1}}, api.Deed{})
			}
		}
	}
	return l
}
