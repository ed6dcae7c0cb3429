package farm_test

import (
	"fmt"
	"math"
	"slices"
	"testing"

	"oberlin/api"
	"oberlin/farm"
)

// L1: the document's example, and scripts beside it.
func TestExample(t *testing.T) {
	plays(t, compiled(t, list, user), 20, [][]api.Deed{
		{do("Go", 5), do("Go", 2), {}, do("Nix")},
		nil,
		{do("Go", 2)},
		{do("Go", 2), do("Go"), do("Go"), {}},
		{do("Nix"), do("Go", 6), do("Go", 1)},
	}, farm.End{Traps: 2, Sum: 8, Used: 15}, farm.End{}, farm.End{Sum: 8, Used: 6}, farm.End{Traps: 1, Sum: 18}, farm.End{Traps: 2, Sum: 8, Used: 18})
}

// traps: a command for each trap but TrapNone, and one without.
const traps = `MODULE M;
TYPE P = POINTER TO R; R = RECORD v: INTEGER; n: P; END; Q = POINTER TO S; S = RECORD (R) END; A = ARRAY 2 OF INTEGER;
VAR p: P; a: A; i: INTEGER;
PROCEDURE well*; BEGIN OUT(1) END well;
PROCEDURE nil*; BEGIN OUT(2); OUT(p.v); OUT(3) END nil;
PROCEDURE place*; BEGIN OUT(4); a[2] := 1; OUT(5) END place;
PROCEDURE guard*; BEGIN NEW(p); OUT(p{Q}.v) END guard;
PROCEDURE div*; BEGIN OUT(6 DIV i) END div;
PROCEDURE assert*; BEGIN OUT(7); ASSERT(FALSE) END assert;
PROCEDURE calls*; BEGIN calls END calls;
PROCEDURE ticks*; BEGIN WHILE TRUE DO OUT(1) END END ticks;
PROCEDURE full*; BEGIN WHILE TRUE DO NEW(p) END END full;
PROCEDURE lack(): INTEGER; BEGIN OUT(8) END lack;
PROCEDURE result*; BEGIN OUT(lack()) END result;
END M.`

// L1: each trap counts as one; what was put out ahead of it counts; used is what is used behind the last event, trap or not.
func TestTraps(t *testing.T) {
	plays(t, compiled(t, traps), 10,
		scripts("well", "nil", "place", "guard", "div", "assert", "calls", "ticks", "full", "nix", "result", "well nil place guard div assert calls ticks full nix result well .", "full full", "full ."),
		farm.End{Sum: 1}, farm.End{Traps: 1, Sum: 2}, farm.End{Traps: 1, Sum: 4}, farm.End{Traps: 1, Used: 3}, farm.End{Traps: 1}, farm.End{Traps: 1, Sum: 7},
		farm.End{Traps: 1}, farm.End{Traps: 1, Sum: api.MaxTicks - 1}, farm.End{Traps: 1, Used: 9}, farm.End{Traps: 1}, farm.End{Traps: 1, Sum: 8},
		farm.End{Traps: 10, Sum: 1 + 2 + 4 + 7 + api.MaxTicks - 1 + 8 + 1, Used: 3}, farm.End{Traps: 2, Used: 9}, farm.End{Traps: 1, Used: 3})
}

// L1: events of the modules' acts count like those of deeds.
func TestBodies(t *testing.T) {
	a := "MODULE A; TYPE P* = POINTER TO R; R* = RECORD v: INTEGER; END; VAR p: P; BEGIN OUT(5); NEW(p); ASSERT(p = NIL); OUT(6) END A."
	m := "MODULE M; IMPORT A; VAR q: A.P; PROCEDURE p*; BEGIN OUT(20) END p; BEGIN OUT(7); NEW(q); q := NIL END M."
	plays(t, compiled(t, a, m), 9, scripts("", "p", ".", "p . x"),
		farm.End{Traps: 1, Sum: 12, Used: 4}, farm.End{Traps: 1, Sum: 32, Used: 4}, farm.End{Traps: 1, Sum: 12, Used: 2}, farm.End{Traps: 2, Sum: 32, Used: 2})
	plays(t, compiled(t, a, m), 1, scripts("p"), farm.End{Traps: 2, Sum: 32})
}

// L1: the sum is that of all numbers of all events: it doesn't come round at 32 bits, and may be below 0.
func TestSum(t *testing.T) {
	objects := compiled(t, "MODULE M; VAR i: INTEGER; j: INTEGER; PROCEDURE two*; BEGIN GET(i); GET(j); OUT(i); OUT(j) END two; END M.")
	plays(t, objects, 0, [][]api.Deed{
		{do("two", math.MaxInt32, math.MaxInt32), do("two", 1)},
		{do("two", math.MinInt32, math.MinInt32), do("two", math.MinInt32, -1)},
		{do("two", math.MinInt32, math.MaxInt32)},
		{do("two", 4, -9), do("two", 4, 1), do("nix", 50)},
		slices.Repeat([]api.Deed{do("two", math.MaxInt32, math.MaxInt32)}, api.MaxDeeds),
	}, farm.End{Sum: 1<<32 - 1}, farm.End{Sum: -3<<31 - 1}, farm.End{Sum: -1}, farm.End{Traps: 1}, farm.End{Sum: 2 * api.MaxDeeds * math.MaxInt32})
}

// L1: used is that of the last event: neither the most, nor that of the last command.
func TestUsed(t *testing.T) {
	objects := compiled(t, "MODULE M; TYPE P = POINTER TO R; R = RECORD a: INTEGER; b: P; END; VAR p: P; PROCEDURE make*; VAR q: P; BEGIN NEW(q); q.b := p; p := q END make; PROCEDURE drop*; BEGIN p := NIL END drop; END M.")
	plays(t, objects, 7, scripts("make", "make make", "make make make", "make drop", "make drop .", "make . drop", "make make drop . make", "drop ."),
		farm.End{Used: 3}, farm.End{Used: 6}, farm.End{Traps: 1, Used: 6}, farm.End{Used: 3}, farm.End{}, farm.End{Used: 3}, farm.End{Used: 3}, farm.End{})
}

// counter: what a command puts out hangs on all that its script did ahead.
const counter = `MODULE M;
TYPE P = POINTER TO R; R = RECORD n: P; END;
VAR count: INTEGER; p: P;
PROCEDURE next*; VAR q: P; BEGIN count := count + 1; OUT(count); NEW(q); q.n := p; p := q END next;
END M.`

// L1: each script is played on its own, from the modules' acts on; as many as there may be, and as long as they may be.
func TestEachOnItsOwn(t *testing.T) {
	var l [][]api.Deed
	var want []farm.End
	for i := range api.MaxRuns {
		count := i * 7 % (api.MaxDeeds + 1)
		l = append(l, slices.Repeat(deeds("next"), count))
		want = append(want, farm.End{Sum: count * (count + 1) / 2, Used: 2 * count})
	}
	plays(t, compiled(t, counter), api.MaxHeap, l, want...)
	plays(t, compiled(t, counter), 0, slices.Repeat(scripts("next next ."), api.MaxRuns), slices.Repeat([]farm.End{{Traps: 2, Sum: 3}}, api.MaxRuns)...)
}

// L1: no scripts.
func TestNoScripts(t *testing.T) {
	for _, objects := range [][][]byte{nil, compiled(t, list, user), {{1, 2}}, make([][]byte, api.MaxModules+1)} {
		for _, heap := range []int{0, api.MaxHeap} {
			plays(t, objects, heap, nil)
			plays(t, objects, heap, [][]api.Deed{})
		}
	}
}

// L1: no events; and events without modules.
func TestNoEvents(t *testing.T) {
	plays(t, nil, 5, scripts("", "", ""), farm.End{}, farm.End{}, farm.End{})
	plays(t, [][]byte{}, 0, scripts("", ".", "p", "p . q"), farm.End{}, farm.End{}, farm.End{Traps: 1}, farm.End{Traps: 2})
}

// L1: one script, and as many as there are hands, or one more, or less.
func TestHowManyScripts(t *testing.T) {
	objects := compiled(t, counter)
	for count := 1; count <= 2*api.MaxHands+1; count++ {
		var l [][]api.Deed
		var want []farm.End
		for i := range count {
			l = append(l, slices.Repeat(deeds("next"), count-i))
			want = append(want, farm.End{Sum: (count - i) * (count - i + 1) / 2, Used: 2 * (count - i)})
		}
		plays(t, objects, 100, l, want...)
	}
}

// The sixth point: scripts of very different length come to the same, however often, and by however many hands.
func TestAgainAndAgain(t *testing.T) {
	objects := compiled(t, traps)
	l := slices.Repeat(scripts("ticks ticks ticks ticks", "", "well", "full . guard . nix", "calls ticks", "nil well"), 6)
	want := slices.Repeat([]farm.End{{Traps: 4, Sum: 4 * (api.MaxTicks - 1)}, {}, {Sum: 1}, {Traps: 3, Used: 3}, {Traps: 2, Sum: api.MaxTicks - 1}, {Traps: 1, Sum: 3}}, 6)
	for range 5 {
		plays(t, objects, 20, l, want...)
	}
}

// Z2: what is handed in is neither written into nor kept, nor read behind its end; what comes out is the caller's.
func TestKeepsNothing(t *testing.T) {
	objects := compiled(t, "MODULE M; VAR i: INTEGER; PROCEDURE p*; BEGIN GET(i); OUT(i); GET(i); OUT(i); GET(i); OUT(i) END p; END M.")
	input := []int{3, 4, 99}[:2]
	script := []api.Deed{do("p", input...), do("p", input...), do("nix")}[:2]
	all := [][]api.Deed{script, script, {do("nix")}}
	before := fmt.Sprint(objects, all, script[:3], input[:3])
	want := []farm.End{{Sum: 14}, {Sum: 14}}
	first, err := farm.Run(objects[:1:1], 0, all[:2], 3)
	if err != nil || !slices.Equal(first, want) || fmt.Sprint(objects, all, script[:3], input[:3]) != before {
		t.Errorf("%v, %v, %v", first, err, all)
	}
	first[0].Sum, first[1].Err = 50, api.ErrForm
	second, err := farm.Run(objects, 0, all[:2], 3)
	if err != nil || !slices.Equal(second, want) {
		t.Errorf("%v, %v", second, err)
	}
	clear(all)
	if !slices.Equal(second, want) {
		t.Errorf("%v", second)
	}
}
