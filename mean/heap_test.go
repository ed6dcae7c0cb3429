package mean_test

import (
	"testing"

	"oberlin/api"
)

// lists is a module of a list, and of commands that make and drop records.
const lists = `MODULE M;
TYPE P = POINTER TO N; N = RECORD v: INTEGER; n: P; END; Row = ARRAY 3 OF P; B = RECORD (N) row: Row; END; PB = POINTER TO B; E = RECORD END; PE = POINTER TO E; Pair = RECORD a: N; b: Row; END;
VAR i: INTEGER; p: P; e: PE; q: PB; row: Row; pair: Pair;
PROCEDURE push*; VAR x: P; BEGIN NEW(x); GET(x.v); x.n := p; p := x END push;
PROCEDURE pop*; BEGIN p := p.n END pop;
PROCEDURE lose*; VAR x: P; BEGIN NEW(x) END lose;
PROCEDURE empty*; BEGIN NEW(e) END empty;
PROCEDURE big*; BEGIN NEW(q); p := q END big;
PROCEDURE ring*; BEGIN NEW(p); NEW(p.n); p.n.n := p END ring;
PROCEDURE inside*; BEGIN NEW(row[2]); NEW(pair.a.n); NEW(pair.b[1]); NEW(q.row[0]); NEW(q.n) END inside;
PROCEDURE drop*; BEGIN p := NIL; q := NIL; e := NIL END drop;
PROCEDURE sum*; VAR x: P; BEGIN x := p; WHILE x # NIL DO i := i + x.v; x := x.n END; OUT(i); i := 0 END sum;
PROCEDURE same*; BEGIN row[0] := p; row[1] := p; pair.a.n := p END same;
END M.`

// deeds of module M, by their names; a dot is a collection.
func deeds(names ...string) (l []api.Deed) {
	for _, s := range names {
		if s == "." {
			l = append(l, api.Deed{})
		} else {
			l = append(l, do(s, 3))
		}
	}
	return l
}

// G4: a record uses one word more than it has; there is room up to the last word.
func TestRoom(t *testing.T) {
	for _, x := range []struct {
		heap  int
		deeds []string
		want  string
	}{
		{6, []string{"push", "push", "push", "sum"}, "0 0|0 3|0 6|8 6|0 6 6"}, {5, []string{"push", "push", "empty", "empty", "empty"}, "0 0|0 3|8 3|0 4|0 5|8 5"},
		{2, []string{"push", "sum", "empty", "big"}, "0 0|8 0|0 0 0|0 1|8 1"}, {0, []string{"empty", "sum"}, "0 0|8 0|0 0 0"},
		{6, []string{"big"}, "0 0|0 6"}, {5, []string{"big"}, "0 0|8 0"}, {4096, []string{"big", "inside"}, "0 0|0 6|0 21"},
	} {
		runs(t, []string{lists}, x.heap, deeds(x.deeds...), x.want)
	}
}

// G4: where there is no room, the pointer stays as it was, and its place is told first.
func TestNoRoom(t *testing.T) {
	text := "MODULE M; TYPE P = POINTER TO N; N = RECORD v: INTEGER; END; Row = ARRAY 2 OF P; VAR p: P; r: Row; PROCEDURE set*; BEGIN NEW(p) END set; PROCEDURE get*; BEGIN OUT(p.v) END get; PROCEDURE far*; BEGIN NEW(r[2]) END far; PROCEDURE f(): INTEGER; BEGIN OUT(7); RETURN 0 END f; PROCEDURE ask*; BEGIN NEW(r[f()]) END ask; BEGIN NEW(p); p.v := 5 END M."
	runs(t, []string{text}, 3, deeds("set", "get", "far", "ask"), "0 2|8 2|0 2 5|2 2|8 2 7")
}

// G5: just what can be come to from the modules' variables, by pointers, uses words behind a collection.
func TestCollection(t *testing.T) {
	for _, x := range []struct {
		deeds []string
		want  string
	}{
		{[]string{"."}, "0 0|0 0"},
		{[]string{"push", "push", ".", "pop", ".", "pop", ".", "pop"}, "0 0|0 3|0 6|0 6|0 6|0 3|0 3|0 0|1 0"},
		{[]string{"lose", "push", "lose", ".", "sum"}, "0 0|0 3|0 6|0 9|0 3|0 3 3"},
		{[]string{"empty", "empty", ".", "drop", "."}, "0 0|0 1|0 2|0 1|0 1|0 0"},
		{[]string{"ring", ".", "drop", "."}, "0 0|0 6|0 6|0 6|0 0"},
		{[]string{"big", "inside", ".", "drop", "."}, "0 0|0 6|0 21|0 21|0 21|0 9"},
		{[]string{"push", "same", ".", "drop", ".", "sum"}, "0 0|0 3|0 3|0 3|0 3|0 3|0 3 0"},
		{[]string{"push", "push", "drop", "push", ".", "push", ".", "sum"}, "0 0|0 3|0 6|0 6|0 9|0 3|0 6|0 6|0 6 6"},
		{[]string{"inside"}, "0 0|1 9"},
	} {
		runs(t, []string{lists}, 100, deeds(x.deeds...), x.want)
	}
}

// G5: the variables of all modules count, also those that are not exported; those of a call that trapped don't.
func TestCollectionOfAll(t *testing.T) {
	texts := []string{
		"MODULE A; TYPE P* = POINTER TO N; N* = RECORD n*: P; END; VAR hid: P; PROCEDURE keep*(p: P); BEGIN hid := p END keep; BEGIN NEW(hid) END A.",
		"MODULE M; IMPORT A; VAR p: A.P; PROCEDURE new*; BEGIN NEW(p) END new; PROCEDURE give*; BEGIN A.keep(p); p := NIL END give; PROCEDURE trap*; VAR x: A.P; BEGIN NEW(x); x.n := p; ASSERT(FALSE) END trap; END M.",
	}
	runs(t, texts, 100, deeds(".", "new", "trap", ".", "give", ".", "new", "."), "0 2|0 2|0 2|0 4|5 6|0 4|0 4|0 2|0 4|0 4")
}

// G5: what a collection took is room again.
func TestRoomAgain(t *testing.T) {
	runs(t, []string{lists}, 6, deeds("lose", "push", "push", ".", "push", "push", "sum"), "0 0|0 3|0 6|8 6|0 3|0 6|8 6|0 6 6")
}

// G5: a long list is gone through to its end.
func TestLongList(t *testing.T) {
	text := "MODULE M; TYPE P = POINTER TO N; N = RECORD n: P; END; VAR p: P; i: INTEGER; PROCEDURE make*; VAR x: P; BEGIN i := 0; WHILE i < 1900 DO NEW(x); x.n := p; p := x; i := i + 1 END END make; PROCEDURE drop*; BEGIN p := NIL END drop; END M."
	runs(t, []string{text}, 4096, deeds("make", ".", "make", ".", "drop", "."), "0 0|0 3800|0 3800|8 4096|0 4096|0 4096|0 0")
}
