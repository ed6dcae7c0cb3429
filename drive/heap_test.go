package drive_test

import (
	"fmt"
	"strings"
	"testing"

	"oberlin/api"
	"oberlin/drive"
)

// lists is a module of a list, and of commands that make and drop records.
const lists = `MODULE M;
TYPE P = POINTER TO N; N = RECORD v: INTEGER; n: P; END; Row = ARRAY 3 OF P; B = RECORD (N) row: Row; END; PB = POINTER TO B; E = RECORD END; PE = POINTER TO E; Pair = RECORD a: N; b: Row; END;
VAR i: INTEGER; p: P; e: PE; q: PB; row: Row; pair: Pair;
PROCEDURE push*; VAR x: P; BEGIN NEW(x); GET(x.v); x.n := p; p := x END push;
PROCEDURE pop*; BEGIN p := p.n END pop;
PROCEDURE lose*; VAR x: P; BEGIN NEW(x); x.v := 77; x.n := p END lose;
PROCEDURE empty*; BEGIN NEW(e) END empty;
PROCEDURE big*; BEGIN NEW(q); GET(q.v); p := q END big;
PROCEDURE ring*; BEGIN NEW(p); NEW(p.n); p.n.n := p; p.v := 1; p.n.v := 2 END ring;
PROCEDURE round*; BEGIN OUT(p.v); OUT(p.n.v); ASSERT((p.n # p) & (p.n.n = p)) END round;
PROCEDURE inside*; BEGIN NEW(row[2]); row[2].v := 5; NEW(pair.a.n); pair.a.n.v := 6; NEW(pair.b[1]); pair.b[1].v := 7; NEW(q.row[0]); q.row[0].v := 8; NEW(q.n); q.n.v := 9 END inside;
PROCEDURE within*; BEGIN OUT(row[2].v); OUT(pair.a.n.v); OUT(pair.b[1].v); OUT(q.row[0].v); OUT(q.n.v) END within;
PROCEDURE drop*; BEGIN p := NIL; q := NIL; e := NIL END drop;
PROCEDURE sum*; VAR x: P; BEGIN x := p; WHILE x # NIL DO i := i + x.v; x := x.n END; OUT(i); i := 0 END sum;
PROCEDURE same*; BEGIN row[0] := p; row[1] := p; pair.a.n := p END same;
PROCEDURE still*; BEGIN ASSERT((row[0] = row[1]) & (row[1] = pair.a.n) & (row[0] # row[2])); row[0].v := 40; OUT(pair.a.n.v) END still;
PROCEDURE based*; BEGIN p := q; q := NIL END based;
PROCEDURE back*; BEGIN OUT(p{PB}.row[0].v) END back;
PROCEDURE fresh*; VAR x: PB; y: P; BEGIN NEW(x); OUT(x.v); ASSERT((x.n = NIL) & (x.row[0] = NIL) & (x.row[2] = NIL)); NEW(y); OUT(y.v); ASSERT(y.n = NIL) END fresh;
PROCEDURE numbers*; BEGIN i := 0; WHILE i < 40 DO p.v := p.v + i; i := i + 1 END END numbers;
END M.`

// K1, G4: a record uses one word more than it has; there is room up to the last word.
func TestRoom(t *testing.T) {
	for _, x := range []struct {
		heap        int
		deeds, want string
	}{
		{6, "push push push sum", "0 0|0 3|0 6|8 6|0 6 3"}, {5, "push push empty empty empty", "0 0|0 3|8 3|0 4|0 5|8 5"},
		{2, "push sum empty big", "0 0|8 0|0 0 0|0 1|8 1"}, {0, "empty sum", "0 0|8 0|0 0 0"}, {1, "empty empty", "0 0|0 1|8 1"},
		{6, "big", "0 0|0 6"}, {5, "big", "0 0|8 0"}, {21, "big inside within", "0 0|0 6|0 21|0 21 5 6 7 8 9"}, {20, "big inside within", "0 0|0 6|8 18|1 18 5 6 7 8"},
	} {
		runs(t, []string{lists}, x.heap, deeds(x.deeds), x.want)
	}
}

// K1, G4: the largest record, and all of the largest heap.
func TestMostRoom(t *testing.T) {
	large := "MODULE M; TYPE Row = ARRAY 64 OF INTEGER; R = RECORD a: Row; b: Row; c: Row; d: Row; e: Row; f: Row; g: Row; h: Row; END; P = POINTER TO R; VAR p: P; PROCEDURE go*; BEGIN NEW(p); p.h[63] := p.a[0] + 9; OUT(p.h[63]) END go; END M."
	runs(t, []string{large}, 513, deeds("go go . go . . go"), "0 0|0 513 9|8 513|0 513|8 513|0 513|0 513|8 513")
	runs(t, []string{large}, 512, deeds("go"), "0 0|8 0")
	runs(t, []string{large}, api.MaxHeap, deeds("go go go go go go go go . go"), "0 0|0 513 9|0 1026 9|0 1539 9|0 2052 9|0 2565 9|0 3078 9|0 3591 9|8 3591|0 513|0 1026 9")
	small := "MODULE M; TYPE R = RECORD v: INTEGER; END; P = POINTER TO R; Row = ARRAY 50 OF P; VAR p: P; i: INTEGER; n: INTEGER; r: Row; PROCEDURE go*; BEGIN i := 0; WHILE i < 1024 DO NEW(p); i := i + 1; n := n + 1; p.v := n; r[n MOD 50] := p END; OUT(p.v) END go; PROCEDURE sum*; BEGIN n := 0; i := 0; WHILE i < 50 DO n := n + r[i].v; i := i + 1 END; OUT(n) END sum; END M."
	runs(t, []string{small}, api.MaxHeap, deeds("go go sum go . sum"), "0 0|0 2048 1024|0 4096 2048|0 4096 101175|8 4096|0 100|0 100 101175")
	runs(t, []string{small}, api.MaxHeap-1, deeds("go go"), "0 0|0 2048 1024|8 4094")
}

// K1, G3: what points to a record isn't NIL, also if modules have no variables.
func TestNoVariables(t *testing.T) {
	runs(t, []string{"MODULE M; TYPE P = POINTER TO R; R = RECORD v: INTEGER; END; PROCEDURE go*; VAR p: P; q: P; BEGIN NEW(p); ASSERT((p # NIL) & (p IS P)); p.v := 3; NEW(q); OUT(p.v + q.v) END go; END M."}, 6, deeds("go go . go"), "0 0|0 4 3|8 6|0 0|0 4 3")
}

// K1, G4: where there is no room, the pointer stays as it was, and its place is told first.
func TestNoRoom(t *testing.T) {
	text := "MODULE M; TYPE P = POINTER TO N; N = RECORD v: INTEGER; END; Row = ARRAY 2 OF P; VAR p: P; r: Row; PROCEDURE set*; BEGIN NEW(p) END set; PROCEDURE get*; BEGIN OUT(p.v) END get; PROCEDURE far*; BEGIN NEW(r[2]) END far; PROCEDURE f(): INTEGER; BEGIN OUT(7); RETURN 0 END f; PROCEDURE ask*; BEGIN NEW(r[f()]) END ask; BEGIN NEW(p); p.v := 5 END M."
	runs(t, []string{text}, 3, deeds("set get far ask . get"), "0 2|8 2|0 2 5|2 2|8 2 7|0 2|0 2 5")
}

// K1, G5: just what can be come to from the modules' variables, by pointers, uses words behind a collection.
func TestCollection(t *testing.T) {
	for deed, want := range map[string]string{
		".":                                      "0 0|0 0",
		"push push . pop . pop . pop":            "0 0|0 3|0 6|0 6|0 6|0 3|0 3|0 0|1 0",
		"lose push lose . sum":                   "0 0|0 3|0 6|0 9|0 3|0 3 2",
		"empty empty . drop .":                   "0 0|0 1|0 2|0 1|0 1|0 0",
		"lose ring . round . round drop .":       "0 0|0 3|0 9|0 6|0 6 1 2|0 6|0 6 1 2|0 6|0 0",
		"big inside . within drop . within":      "0 0|0 6|0 21|0 21|0 21 5 6 7 8 9|0 21|0 9|1 9 5 6 7",
		"lose big inside . within . within":      "0 0|0 3|0 9|0 24|0 21|0 21 5 6 7 8 9|0 21|0 21 5 6 7 8 9",
		"lose push same . drop . still sum":      "0 0|0 3|0 6|0 6|0 3|0 3|0 3|0 3 40|0 3 0",
		"big inside lose based . back . back":    "0 0|0 6|0 21|0 24|0 24|0 21|0 21 8|0 21|0 21 8",
		"push push drop push . push . sum":       "0 0|0 3|0 6|0 6|0 9|0 3|0 6|0 6|0 6 10",
		"push lose push lose push . sum . . sum": "0 0|0 3|0 6|0 9|0 12|0 15|0 9|0 9 9|0 9|0 9|0 9 9",
		"lose push numbers . sum":                "0 0|0 3|0 6|0 6|0 3|0 3 822",
		"lose empty . empty . push . sum":        "0 0|0 3|0 4|0 1|0 2|0 1|0 4|0 4|0 4 6",
		"inside .":                               "0 0|1 9|0 9",
	} {
		runs(t, []string{lists}, 100, deeds(deed), want)
	}
}

// K1, G5: what a collection took is room again, and what is made there is all 0, FALSE, NIL.
func TestRoomAgain(t *testing.T) {
	runs(t, []string{lists}, 6, deeds("lose push push . push push sum"), "0 0|0 3|0 6|8 6|0 3|0 6|8 6|0 6 7")
	runs(t, []string{lists}, 15, deeds("lose lose push lose lose fresh . fresh . fresh sum"), "0 0|0 3|0 6|0 9|0 12|0 15|8 15|0 3|0 12 0 0|0 3|0 12 0 0|0 12 3")
}

// K1, G5: the variables of all modules count, also those that are not exported; those of a call that trapped don't.
func TestCollectionOfAll(t *testing.T) {
	texts := []string{
		"MODULE A; TYPE P* = POINTER TO N; N* = RECORD n*: P; END; VAR i: INTEGER; hid: P; PROCEDURE keep*(p: P); BEGIN hid := p END keep; BEGIN NEW(hid) END A.",
		"MODULE B; END B.",
		"MODULE M; IMPORT A; TYPE R = RECORD (A.N) i: INTEGER; more: A.P; END; Q = POINTER TO R; VAR p: A.P; q: Q; PROCEDURE new*; BEGIN NEW(q); NEW(q.more); NEW(p); q.i := 3 END new; PROCEDURE give*; BEGIN A.keep(q); q := NIL END give; PROCEDURE trap*; VAR x: A.P; BEGIN NEW(x); x.n := p; ASSERT(FALSE) END trap; END M.",
	}
	runs(t, texts, 100, deeds(". new . trap . give . new ."), "0 2|0 2|0 2|0 2|0 10|0 10|5 12|0 10|0 10|0 8|0 16|0 14")
}

// K1, G5: a long list is gone through to its end, and moved whole.
func TestLongList(t *testing.T) {
	text := "MODULE M; TYPE P = POINTER TO N; N = RECORD n: P; END; VAR p: P; i: INTEGER; PROCEDURE make*; VAR x: P; BEGIN i := 0; WHILE i < 1900 DO NEW(x); x.n := p; p := x; i := i + 1 END END make; PROCEDURE drop*; BEGIN p := NIL END drop; PROCEDURE half*; VAR x: P; BEGIN i := 0; x := p; WHILE (x # NIL) & (x.n # NIL) DO i := i + 1; x.n := x.n.n; x := x.n END; OUT(i) END half; PROCEDURE count*; VAR x: P; BEGIN i := 0; x := p; WHILE x # NIL DO i := i + 1; x := x.n END; OUT(i) END count; END M."
	runs(t, []string{text}, 4096, deeds("make . count half . count make . drop ."), "0 0|0 3800|0 3800|0 3800 1900|0 3800 950|0 1900|0 1900 950|8 4096|0 4096|0 4096|0 0")
}

// histories: scripts of module lists in which no deed is a collection.
var histories = []string{
	"push push lose push sum pop sum lose fresh sum pop pop pop push sum",
	"ring round lose round big inside within same still drop push sum",
	"big push lose sum inside pop back within based back drop sum fresh",
	"lose empty push same drop still sum ring same round inside drop within",
}

// collecting lays collections into a history: a bit of a number says whether one stands ahead of a deed.
func collecting(history string, number int) (l []api.Deed) {
	for i, d := range deeds(history) {
		if number>>i&1 == 1 {
			l = append(l, api.Deed{})
		}
		l = append(l, d)
	}
	return l
}

// The fourth point: collections change nothing of what is put out, wherever they stand; and just with those words there is room for all.
func TestCollectionsChangeNothing(t *testing.T) {
	objects := compiled(t, lists)
	for _, history := range histories {
		plain := outcomes(t, objects, api.MaxHeap, deeds(history))
		for number := range 1 << len(strings.Fields(history)) {
			if number%37 > 0 {
				continue
			}
			script := collecting(history, number)
			if got := outcomes(t, objects, api.MaxHeap, script); got != plain {
				t.Fatalf("%s with collections, %s without: %s, %b", got, plain, history, number)
			}
			enough(t, objects, script)
		}
	}
}

// outcomes are the traps, and what was put out, of all but collections.
func outcomes(t *testing.T, objects [][]byte, heap int, script []api.Deed) (s string) {
	t.Helper()
	l, err := drive.Run(objects, heap, script)
	if err != nil || len(l) != len(objects)+len(script) {
		t.Fatalf("%d events, %v", len(l), err)
	}
	for i, e := range l[len(objects):] {
		if script[i].Module != "" {
			s += fmt.Sprint(e.Trap, e.Out)
		}
	}
	return s
}

// enough holds what comes of a script with as many words as it uses, and with one less, against what comes of it with all.
func enough(t *testing.T, objects [][]byte, script []api.Deed) {
	t.Helper()
	wide, _ := drive.Run(objects, api.MaxHeap, script)
	most, first := 0, 0
	for i, e := range wide {
		if e.Used > most {
			most, first = e.Used, i
		}
	}
	just, err := drive.Run(objects, most, script)
	if err != nil || allTold(just) != allTold(wide) {
		t.Fatalf("%v, %v, and with more room %v", just, err, wide)
	}
	few, err := drive.Run(objects, most-1, script)
	if err != nil || allTold(few[:first]) != allTold(wide[:first]) || few[first].Trap != api.TrapFull || few[first].Used >= most {
		t.Fatalf("%v, %v, and with a word more %v", few, err, wide)
	}
}
