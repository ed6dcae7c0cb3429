package drive_test

import (
	"fmt"
	"math"
	"slices"
	"testing"

	"oberlin/api"
	"oberlin/drive"
	"oberlin/gen"
)

// list: the first module of the document's example.
const list = `MODULE L;
CONST two* = 1 + 1;
TYPE P* = POINTER TO R; R* = RECORD v*: INTEGER; n*: P; END; Big = RECORD (R) more: INTEGER; END;
VAR p*: P;
PROCEDURE Push*(x: INTEGER); VAR q: P;
BEGIN NEW(q); q.v := x; q.n := p; p := q END Push;
END L.`

// user: the second one.
const user = `MODULE M; IMPORT L; VAR i: INTEGER;
PROCEDURE Go*;
BEGIN GET(i); WHILE i > 0 DO L.Push(i * L.two); i := i - 1 END; OUT(L.p.v + 2 * 3); L.p := L.p.n
END Go; END M.`

// K1: the document's example.
func TestExample(t *testing.T) {
	runs(t, []string{list, user}, 20, []api.Deed{do("Go", 5), do("Go", 2), {}, do("Nix")}, "0 0|0 0|0 15 8|8 18|0 15|9 15")
}

// refused holds what Run says against an error; of an object's, the object's number is told, else -1.
func refused(t *testing.T, e api.Errno, text int, objects [][]byte, heap int, script []api.Deed) {
	t.Helper()
	l, err := drive.Run(objects, heap, script)
	var want error = e
	if text >= 0 {
		want = &api.Fault{Text: text, Err: e}
	}
	if fmt.Sprintf("%T %v", err, err) != fmt.Sprintf("%T %v", want, want) || l != nil {
		t.Errorf("%v, %v, wanted %v", l, err, want)
	}
}

// wrongScripts: heaps and scripts that can't be.
func wrongScripts(try func(heap int, script []api.Deed)) {
	for _, heap := range []int{-1, api.MaxHeap + 1, math.MinInt, math.MaxInt} {
		try(heap, nil)
	}
	try(20, make([]api.Deed, api.MaxDeeds+1))
	try(20, []api.Deed{do("Go"), do("Go", make([]int, api.MaxDeeds+1)...)})
	try(20, []api.Deed{{Input: make([]int, api.MaxDeeds+1)}})
	for _, x := range []int{math.MaxInt32 + 1, math.MinInt32 - 1, math.MaxInt, math.MinInt} {
		try(20, []api.Deed{do("Go", 1, x)})
		try(20, []api.Deed{{}, {Module: "Nix", Input: []int{x}}})
	}
}

// K1: what Load says.
func TestWhatLoadSays(t *testing.T) {
	l := compiled(t, list, user)
	broken := slices.Clone(l[1])
	broken[len(broken)/2] ^= 1
	other := compiled(t, "MODULE L; CONST two* = 3; END L.")[0]
	for _, x := range []struct {
		e       api.Errno
		text    int
		objects [][]byte
	}{
		{api.ErrLimit, -1, make([][]byte, api.MaxModules+1)},
		{api.ErrLimit, -1, append(compiled(t, list, user, "MODULE A; END A.", "MODULE B; END B.", "MODULE C; END C.", "MODULE D; END D."), l[0])},
		{api.ErrForm, 0, [][]byte{nil}}, {api.ErrForm, 0, [][]byte{[]byte(list), l[1]}}, {api.ErrForm, 1, [][]byte{l[0], broken}}, {api.ErrForm, 1, [][]byte{l[0], l[1][:len(l[1])-1]}}, {api.ErrForm, 0, [][]byte{broken, l[1]}},
		{api.ErrTwice, 1, [][]byte{l[0], l[0]}}, {api.ErrTwice, 2, [][]byte{l[0], l[1], l[1]}}, {api.ErrTwice, 1, [][]byte{l[0], other, l[1]}},
		{api.ErrName, 0, [][]byte{l[1]}}, {api.ErrName, 0, [][]byte{l[1], l[0]}}, {api.ErrName, 0, [][]byte{l[1], broken}},
		{api.ErrKey, 1, [][]byte{other, l[1]}}, {api.ErrKey, 1, [][]byte{other, l[1], broken}},
	} {
		refused(t, x.e, x.text, x.objects, 20, []api.Deed{do("Go", 1)})
		wrongScripts(func(heap int, script []api.Deed) { refused(t, x.e, x.text, x.objects, heap, script) })
	}
}

// K1: what mean.Args says, if Load says nothing.
func TestWhatArgsSays(t *testing.T) {
	for _, objects := range [][][]byte{nil, compiled(t, list), compiled(t, list, user)} {
		wrongScripts(func(heap int, script []api.Deed) { refused(t, api.ErrLimit, -1, objects, heap, script) })
	}
}

// K1: the most that a heap and a script may be.
func TestMost(t *testing.T) {
	full := slices.Repeat([]api.Deed{do("all", slices.Repeat([]int{math.MaxInt32, math.MinInt32}, api.MaxDeeds/2)...)}, api.MaxDeeds)
	text := "MODULE M; VAR i: INTEGER; s: INTEGER; PROCEDURE all*; VAR n: INTEGER; BEGIN s := 0; WHILE n < 41 DO i := 7; GET(i); s := s + i; n := n + 1 END; OUT(s); OUT(i) END all; END M."
	for _, heap := range []int{0, api.MaxHeap} {
		l, err := drive.Run(compiled(t, text), heap, full)
		if err != nil || len(l) != 1+api.MaxDeeds {
			t.Fatalf("%d events, %v", len(l), err)
		}
		for _, e := range l[1:] {
			if got := told(e); got != "0 0 -20 0" {
				t.Errorf("%s", got)
			}
		}
	}
}

// K1, G1: what may be called: an exported procedure without parameters and result, of any module.
func TestCommands(t *testing.T) {
	texts := []string{
		"MODULE A; PROCEDURE p*; BEGIN OUT(1) END p; END A.",
		"MODULE M; IMPORT A; CONST c* = 1; TYPE T* = ARRAY 1 OF INTEGER; VAR v*: INTEGER; PROCEDURE hid; BEGIN OUT(3) END hid; PROCEDURE p*; BEGIN OUT(2) END p; PROCEDURE one*(x: INTEGER); BEGIN OUT(4) END one; PROCEDURE f*(): INTEGER; BEGIN RETURN 5 END f; PROCEDURE e*(); BEGIN OUT(6) END e; BEGIN OUT(7) END M.",
	}
	script := append([]api.Deed{{Module: "A", Proc: "p"}}, deeds("p hid one f e c T v A nix")...)
	script = append(script, do(""), api.Deed{Module: "X", Proc: "p"}, api.Deed{Proc: "p"}, api.Deed{Module: "m", Proc: "p"}, api.Deed{Input: []int{4}})
	runs(t, texts, 0, script, "0 0|0 0 7|0 0 1|0 0 2|9 0|9 0|9 0|0 0 6|9 0|9 0|9 0|9 0|9 0|9 0|9 0|9 0|9 0|0 0")
	runs(t, nil, 0, []api.Deed{do("p"), {}}, "9 0|0 0")
	runs(t, nil, 0, nil, "")
}

// K1, G1, G2: what was done ahead of a trap stays done; modules behind one that trapped have their acts, too.
func TestStaysDone(t *testing.T) {
	texts := []string{
		"MODULE A; TYPE P* = POINTER TO R; R* = RECORD END; VAR i*: INTEGER; p: P; BEGIN OUT(1); i := 7; NEW(p); ASSERT(FALSE); OUT(2); i := 8 END A.",
		"MODULE M; IMPORT A; PROCEDURE p*; BEGIN A.i := A.i + 1; OUT(A.i); ASSERT(A.i > 8); OUT(0) END p; BEGIN OUT(A.i) END M.",
	}
	runs(t, texts, 9, []api.Deed{do("p"), do("p")}, "5 1 1|0 1 7|5 1 8|0 1 9 0")
}

// K1, G2: each deed has its own numbers to be read; a module's acts have none, and a collection reads none.
func TestInput(t *testing.T) {
	texts := []string{"MODULE M; VAR i: INTEGER; PROCEDURE p*; VAR j: INTEGER; BEGIN j := 9; GET(i); GET(j); OUT(i); OUT(j) END p; BEGIN i := 5; GET(i); OUT(i) END M."}
	runs(t, texts, 0, []api.Deed{do("p", 3, 4, 5), do("p"), {Input: []int{1, 2}}, do("p", math.MinInt32), do("p", math.MaxInt32, -1)},
		"0 0 0|0 0 3 4|0 0 0 0|0 0|0 0 -2147483648 0|0 0 2147483647 -1")
}

// Z2: what is handed in is not written into, nor read behind its end; no two lists of an answer share memory; a second call says the same.
func TestKeepsNothing(t *testing.T) {
	objects := compiled(t, "MODULE M; VAR i: INTEGER; PROCEDURE p*; BEGIN GET(i); OUT(i); GET(i); OUT(i); GET(i); OUT(i) END p; END M.")
	input := []int{3, 4, 99}[:2]
	script := []api.Deed{do("p", input...), do("p", input...)}
	before := fmt.Sprint(objects, script, input[:3])
	first, err := drive.Run(objects, 0, script)
	if err != nil || fmt.Sprint(objects, script, input[:3]) != before {
		t.Errorf("%v, %v", script, err)
	}
	for i := range first[1].Out {
		first[1].Out[i] = 50
	}
	_ = append(first[1].Out[:0], 60, 60, 60, 60, 60)
	if got := allTold(first[2:]); got != "0 0 3 4 0" || fmt.Sprint(objects, script, input[:3]) != before {
		t.Errorf("lists share memory: %s, %v", got, script)
	}
	second, err := drive.Run(objects, 0, script)
	if got := allTold(second); err != nil || got != "0 0|0 0 3 4 0|0 0 3 4 0" {
		t.Errorf("%s, %v", got, err)
	}
}

// Beyond what is promised: instructions that no text is made to are an error, too, not a panic.
func TestBroken(t *testing.T) {
	for what, change := range map[string]func(*gen.Object){
		"nothing on the stack":  func(o *gen.Object) { o.Code[o.Start] = gen.Instruction{Op: gen.Load} },
		"no such word":          func(o *gen.Object) { o.Code[o.Start] = gen.Instruction{Op: gen.Push, A: -5} },
		"no end":                func(o *gen.Object) { o.Code[len(o.Code)-1] = gen.Instruction{Op: gen.Push} },
		"less than no words":    func(o *gen.Object) { o.Words = -100000 },
		"a parameter too many":  func(o *gen.Object) { o.Procedures[0].Parameters = 100 },
		"pointers behind words": func(o *gen.Object) { o.Points = append(o.Points, 1<<20) },
	} {
		o, err := gen.Read(compiled(t, "MODULE M; VAR i: INTEGER; PROCEDURE p; BEGIN END p; BEGIN i := -2147483647; OUT(i); p END M.")[0])
		if err != nil {
			t.Fatal(err)
		}
		change(o)
		l, err := drive.Run([][]byte{o.Bytes()}, 20, []api.Deed{{}})
		if e, _, _ := api.Tell(err); e != api.ErrForm || l != nil {
			t.Errorf("%s: %v, %v", what, l, err)
		}
	}
}
