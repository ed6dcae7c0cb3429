package mean_test

import (
	"math"
	"slices"
	"strings"
	"testing"

	"oberlin/api"
	"oberlin/mean"
)

// G1: what a heap and a script may be, and what not.
func TestArgs(t *testing.T) {
	most, tooMany := make([]int, api.MaxDeeds), make([]int, api.MaxDeeds+1)
	full := make([]api.Deed, api.MaxDeeds)
	for _, x := range []struct {
		heap   int
		script []api.Deed
		want   error
	}{
		{0, nil, nil}, {api.MaxHeap, full, nil},
		{-1, nil, api.ErrLimit}, {api.MaxHeap + 1, nil, api.ErrLimit}, {math.MaxInt, nil, api.ErrLimit}, {math.MinInt, nil, api.ErrLimit},
		{5, make([]api.Deed, api.MaxDeeds+1), api.ErrLimit},
		{5, []api.Deed{do("a", most...)}, nil}, {5, []api.Deed{do("a"), do("b", tooMany...)}, api.ErrLimit},
		{5, []api.Deed{{Input: most}}, nil}, {5, []api.Deed{{Input: tooMany}}, api.ErrLimit},
		{5, []api.Deed{do("a", 1, math.MaxInt32, math.MinInt32)}, nil},
		{5, []api.Deed{do("a", 1, math.MaxInt32+1)}, api.ErrLimit}, {5, []api.Deed{do("a", math.MinInt32-1, 1)}, api.ErrLimit},
		{5, []api.Deed{do("a"), {Input: []int{math.MaxInt}}}, api.ErrLimit},
		{5, []api.Deed{{Module: strings.Repeat("?", 5000), Proc: "é"}}, nil},
	} {
		if err := mean.Args(x.heap, x.script); err != x.want {
			t.Errorf("%d, %v: %v, wanted %v", x.heap, x.script, err, x.want)
		}
		l, err := mean.Run(nil, x.heap, x.script)
		if err != x.want || err != nil && l != nil || err == nil && len(l) != len(x.script) {
			t.Errorf("Run: %d, %v: %v %v, wanted %v", x.heap, x.script, l, err, x.want)
		}
	}
}

// G1: what Check says comes ahead of what Args says.
func TestErrors(t *testing.T) {
	wrong := []string{"MODULE M; END M.", "MODULE N; BEGIN x := 1 END N."}
	l, err := mean.Run(wrong, -1, nil)
	if e, text, at := api.Tell(err); e != api.ErrName || text != 1 || at != 16 || l != nil {
		t.Errorf("%v, %v", l, err)
	}
	if l, err := mean.Run(make([]string, api.MaxModules+1), 0, nil); err != api.ErrLimit || l != nil {
		t.Errorf("%v, %v", l, err)
	}
	if l, err := mean.Run(wrong[:1], -1, nil); err != api.ErrLimit || l != nil {
		t.Errorf("%v, %v", l, err)
	}
}

// list: the first module of the document's example.
const list = `MODULE L;
CONST two* = 1 + 1;
TYPE P* = POINTER TO R; R* = RECORD v*: INTEGER; n*: P; END; Big = RECORD (R) more: INTEGER; END;
VAR p*: P;
PROCEDURE Push*(x: INTEGER); VAR q: P;
BEGIN NEW(q); q.v := x; q.n := p; p := q END Push;
END L.`

// G1 to G5: the document's example.
func TestExample(t *testing.T) {
	texts := []string{list, `MODULE M; IMPORT L; VAR i: INTEGER;
PROCEDURE Go*;
BEGIN GET(i); WHILE i > 0 DO L.Push(i * L.two); i := i - 1 END; OUT(L.p.v + 2 * 3); L.p := L.p.n
END Go; END M.`}
	runs(t, texts, 20, []api.Deed{do("Go", 5), do("Go", 2), {}, do("Nix")}, "0 0|0 0|0 15 8|8 18|0 15|9 15")
}

// G1: what may be called: an exported procedure without parameters and result.
func TestCommands(t *testing.T) {
	texts := []string{
		"MODULE A; PROCEDURE p*; BEGIN OUT(1) END p; END A.",
		"MODULE M; IMPORT A; CONST c* = 1; TYPE T* = ARRAY 1 OF INTEGER; VAR v*: INTEGER; PROCEDURE p*; BEGIN OUT(2) END p; PROCEDURE hid; BEGIN OUT(3) END hid; PROCEDURE one*(x: INTEGER); BEGIN OUT(4) END one; PROCEDURE f*(): INTEGER; BEGIN RETURN 5 END f; PROCEDURE e*(); BEGIN OUT(6) END e; BEGIN OUT(7) END M.",
	}
	script := []api.Deed{{Module: "A", Proc: "p"}, do("p"), do("hid"), do("one"), do("f"), do("e"), do("c"), do("T"), do("v"), do("A"), do("nix"), do(""), {Module: "X", Proc: "p"}, {Proc: "p"}, {Module: "m", Proc: "p"}, {Input: []int{4}}}
	runs(t, texts, 0, script, "0 0|0 0 7|0 0 1|0 0 2|9 0|9 0|9 0|0 0 6|9 0|9 0|9 0|9 0|9 0|9 0|9 0|9 0|9 0|0 0")
	runs(t, nil, 0, []api.Deed{do("p"), {}}, "9 0|0 0")
}

// G1, G2: what was done ahead of a trap stays done; modules behind one that trapped have their acts, too.
func TestStaysDone(t *testing.T) {
	texts := []string{
		"MODULE A; TYPE P* = POINTER TO R; R* = RECORD END; VAR i*: INTEGER; p: P; BEGIN OUT(1); i := 7; NEW(p); ASSERT(FALSE); OUT(2); i := 8 END A.",
		"MODULE M; IMPORT A; PROCEDURE p*; BEGIN A.i := A.i + 1; OUT(A.i); ASSERT(A.i > 8); OUT(0) END p; BEGIN OUT(A.i) END M.",
	}
	runs(t, texts, 9, []api.Deed{do("p"), do("p")}, "5 1 1|0 1 7|5 1 8|0 1 9 0")
}

// G2: each deed has its own numbers to be read; a module's acts have none.
func TestInput(t *testing.T) {
	texts := []string{"MODULE M; VAR i: INTEGER; PROCEDURE p*; VAR j: INTEGER; BEGIN j := 9; GET(i); GET(j); OUT(i); OUT(j) END p; BEGIN i := 5; GET(i); OUT(i) END M."}
	runs(t, texts, 0, []api.Deed{do("p", 3, 4, 5), do("p"), do("p", math.MinInt32), do("p", math.MaxInt32, -1)},
		"0 0 0|0 0 3 4|0 0 0 0|0 0 -2147483648 0|0 0 2147483647 -1")
}

// Z2: what is handed in is not written into, and what comes out shares nothing with it; a second call says the same.
func TestKeepsNothing(t *testing.T) {
	texts := []string{"MODULE M; VAR i: INTEGER; PROCEDURE p*; BEGIN GET(i); OUT(i); GET(i); OUT(i) END p; END M."}
	input := []int{3, 4, 99}[:2]
	script := []api.Deed{do("p", input...), do("p", input...)}
	first, err := mean.Run(texts, 0, script)
	if err != nil || !slices.Equal(input[:3], []int{3, 4, 99}) {
		t.Errorf("%v, %v", input[:3], err)
	}
	for i := range first[1].Out {
		first[1].Out[i] = 50
	}
	_ = append(first[1].Out[:0], 60, 60, 60)
	if first[2].Out[0] != 3 || input[0] != 3 {
		t.Error("lists share memory")
	}
	runs(t, texts, 0, script, "0 0|0 0 3 4|0 0 3 4")
}
