package drive_test

import (
	"bytes"
	"strings"
	"testing"

	"oberlin/api"
	"oberlin/drive"
	"oberlin/mean"
)

// stores: texts of a module with one face: what they hide, and what they do, is not the same.
var stores = []string{
	"MODULE A; CONST c* = 4; TYPE P* = POINTER TO R; R* = RECORD v*: INTEGER; n*: P; END; VAR n*: INTEGER; p*: P; PROCEDURE Put*(x: INTEGER); VAR q: P; BEGIN NEW(q); q.v := x; q.n := p; p := q END Put; PROCEDURE Get*(): INTEGER; VAR x: INTEGER; BEGIN x := p.v; p := p.n; RETURN x END Get; PROCEDURE Go*; BEGIN OUT(c) END Go; END A.",
	"MODULE A; CONST hid = 3; c* = hid + 1; TYPE P* = POINTER TO R; R* = RECORD v*: INTEGER; n*: P; END; VAR n*: INTEGER; p*: P; last: P; calls: INTEGER; PROCEDURE count; BEGIN calls := calls + 1; n := calls END count; PROCEDURE Put*(x: INTEGER); VAR a: P; b: P; BEGIN count; NEW(a); a.v := x * 10; IF p = NIL THEN p := a ELSE b := last; b.n := a END; last := a END Put; PROCEDURE head(): P; BEGIN count; RETURN p END head; PROCEDURE Get*(): INTEGER; VAR q: P; BEGIN q := head(); p := p.n; IF p = NIL THEN last := NIL END; RETURN q.v + n END Get; PROCEDURE Go*; BEGIN OUT(calls) END Go; BEGIN calls := 100; OUT(c) END A.",
	"MODULE A; CONST c* = 4; TYPE P* = POINTER TO R; R* = RECORD v*: INTEGER; n*: P; END; VAR n*: INTEGER; p*: P; PROCEDURE z; BEGIN ASSERT(FALSE) END z; PROCEDURE Put*(x: INTEGER); BEGIN z END Put; PROCEDURE Get*(): INTEGER; BEGIN END Get; PROCEDURE Go*; BEGIN z END Go; END A.",
}

// shelves: texts of a module with one face that imports a store.
var shelves = []string{
	"MODULE B; IMPORT A; TYPE S* = RECORD (A.R) w*: A.P; END; Q* = POINTER TO S; VAR q*: Q; PROCEDURE Big*(x: INTEGER); BEGIN NEW(q); q.v := x; q.w := A.p; A.Put(x + 1); q.n := A.p END Big; END B.",
	"MODULE B; IMPORT A; TYPE S* = RECORD (A.R) w*: A.P; END; Q* = POINTER TO S; VAR q*: Q; more: Q; PROCEDURE one; BEGIN NEW(more); more.n := q END one; PROCEDURE two; BEGIN one; q := more END two; PROCEDURE Big*(x: INTEGER); BEGIN two; q.v := x; NEW(q.w); q.w.v := x - 1; more := NIL; A.p := q END Big; BEGIN two; OUT(1) END B.",
}

// desk: it uses both.
const desk = "MODULE M; IMPORT B, A; VAR i: INTEGER; PROCEDURE put*; BEGIN GET(i); A.Put(i + A.c); OUT(A.n) END put; PROCEDURE get*; BEGIN OUT(A.Get()) END get; PROCEDURE big*; BEGIN GET(i); B.Big(i); OUT(B.q.v); IF B.q.n # NIL THEN OUT(B.q.n.v) END END big; PROCEDURE look*; BEGIN IF A.p IS B.Q THEN OUT(A.p{B.Q}.w.v) ELSE OUT(A.p.v) END END look; END M."

// The third point, J1, K1: objects of several texts do what these texts do, if these have the same faces: neither what a module hides nor what it does is in the code of others.
func TestOtherTexts(t *testing.T) {
	script := deeds("put put . get big look . look get big put . get get look Go big . look put")
	script = append(script, api.Deed{Module: "A", Proc: "Go"}, api.Deed{Module: "A", Proc: "count"}, api.Deed{Module: "B", Proc: "two"})
	seen := map[string]bool{}
	for _, store := range stores {
		for _, shelf := range shelves {
			mix := [][]byte{compiled(t, store)[0], compiled(t, stores[0], shelf)[1], compiled(t, stores[1], shelves[1], desk)[2]}
			for i, l := range compiled(t, store, shelf, desk) {
				if !bytes.Equal(l, mix[i]) {
					t.Errorf("object %d is another one with %q", i, store)
				}
			}
			for _, heap := range []int{0, 12, 30, 400} {
				trees, err := mean.Run([]string{store, shelf, desk}, heap, script)
				if err != nil {
					t.Fatal(err)
				}
				l, err := drive.Run(mix, heap, script)
				if got, want := allTold(l), allTold(trees); got != want || err != nil {
					t.Errorf("%s, %v, wanted %s", got, err, want)
				}
				seen[allTold(l)] = true
			}
		}
	}
	if len(seen) < 15 {
		t.Errorf("only %d outcomes", len(seen))
	}
}

// The third point, with what is wanted told by the test itself.
func TestOtherActs(t *testing.T) {
	user := "MODULE M; IMPORT A; PROCEDURE go*; BEGIN GET(A.n); A.Put(A.n); A.Put(A.n + 1); OUT(A.Get()); OUT(A.n) END go; END M."
	m := compiled(t, stores[0], user)[1]
	for i, want := range []string{"0 0|0 0|0 6 6 5", "0 0 4|0 0|0 6 153 103", "0 0|0 0|5 0"} {
		l, err := drive.Run([][]byte{compiled(t, stores[i])[0], m}, 6, []api.Deed{do("go", 5)})
		if got := allTold(l); err != nil || got != want {
			t.Errorf("%s, %v, wanted %s", got, err, want)
		}
	}
}

// The third point: no module runs with one that shows other things than it was made with.
func TestOtherFaces(t *testing.T) {
	l := compiled(t, stores[0], shelves[0], desk)
	for _, change := range [][2]string{{"c* = 4", "c* = 5"}, {"v*: INTEGER", "v: INTEGER"}, {"n*: P;", "n*: P; m: P;"}, {"n*: INTEGER", "k: INTEGER; n*: INTEGER"}, {"Put*", "Put"}, {"Go*", "Go"}} {
		other, err := drive.Run([][]byte{compiled(t, strings.Replace(stores[0], change[0], change[1], 1))[0], l[1], l[2]}, 20, deeds("put"))
		if e, text, at := api.Tell(err); e != api.ErrKey || text != 1 || at != 0 || other != nil {
			t.Errorf("%s: %v, %v", change[1], other, err)
		}
	}
	other, err := drive.Run([][]byte{l[0], compiled(t, stores[0], strings.Replace(shelves[0], "Big*", "Big", 1))[1], l[2]}, 20, deeds("put"))
	if e, text, at := api.Tell(err); e != api.ErrKey || text != 2 || at != 0 || other != nil {
		t.Errorf("%v, %v", other, err)
	}
}
