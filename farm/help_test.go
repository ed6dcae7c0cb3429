package farm_test

import (
	"fmt"
	"strings"
	"testing"

	"oberlin/api"
	"oberlin/drive"
	"oberlin/farm"
	"oberlin/gen"
)

// list: the first module of the document's example.
const list = `MODULE L;
CONST two* = 1 + 1;
TYPE P* = POINTER TO R; R* = RECORD v*: INTEGER; n*: P; END; Big = RECORD (R) more: INTEGER; END;
VAR p*: P;
PROCEDURE Push*(x: INTEGER); VAR q: P;
BEGIN NEW(q); q.v := x; q.n := p; p := q END Push;
END L.`

// user: the second one.
const user = `MODULE M; IMPORT L; VAR i: INTEGER;
PROCEDURE Go*;
BEGIN GET(i); WHILE i > 0 DO L.Push(i * L.two); i := i - 1 END; OUT(L.p.v + 2 * 3); L.p := L.p.n
END Go; END M.`

// compiled are the objects of texts that are right.
func compiled(t *testing.T, texts ...string) [][]byte {
	t.Helper()
	l, err := gen.Compile(texts)
	if err != nil || len(l) != len(texts) {
		t.Fatalf("%d objects, %v of %q", len(l), err, texts)
	}
	return l
}

// do is a deed of module M.
func do(name string, input ...int) api.Deed { return api.Deed{Module: "M", Proc: name, Input: input} }

// deeds of module M, by their names; a dot is a collection.
func deeds(names string) (l []api.Deed) {
	for _, s := range strings.Fields(names) {
		if s == "." {
			l = append(l, api.Deed{})
		} else {
			l = append(l, do(s))
		}
	}
	return l
}

// scripts of such deeds.
func scripts(names ...string) (l [][]api.Deed) {
	for _, s := range names {
		l = append(l, deeds(s))
	}
	return l
}

// alone is what comes of a script by itself, worked out from its events.
func alone(objects [][]byte, heap int, script []api.Deed) (end farm.End) {
	events, err := drive.Run(objects, heap, script)
	if err != nil {
		e, _, _ := api.Tell(err)
		return farm.End{Err: e}
	}
	for _, e := range events {
		if e.Trap > 0 {
			end.Traps++
		}
		for _, x := range e.Out {
			end.Sum += x
		}
	}
	if len(events) > 0 {
		end.Used = events[len(events)-1].Used
	}
	return end
}

// same tells the first of the ends that is not as it should be.
func same(t *testing.T, what string, got, want []farm.End) {
	t.Helper()
	if len(got) != len(want) {
		t.Errorf("%s: %d ends, wanted %d", what, len(got), len(want))
		return
	}
	for i, end := range got {
		if end != want[i] {
			t.Errorf("%s: script %d: %+v, wanted %+v", what, i, end, want[i])
			return
		}
	}
}

// plays holds what comes of scripts, by each number of hands, against what is wanted, and against what comes of each alone.
func plays(t *testing.T, objects [][]byte, heap int, scripts [][]api.Deed, want ...farm.End) {
	t.Helper()
	var each []farm.End
	for _, script := range scripts {
		each = append(each, alone(objects, heap, script))
	}
	same(t, "each alone", each, want)
	for hands := 1; hands <= api.MaxHands; hands++ {
		got, err := farm.Run(objects, heap, scripts, hands)
		if err != nil {
			t.Errorf("%d hands: %v", hands, err)
		}
		same(t, fmt.Sprint(hands, " hands"), got, want)
	}
}

// refused: there must be the bare error, and nothing else.
func refused(t *testing.T, objects [][]byte, heap int, scripts [][]api.Deed, hands int) {
	t.Helper()
	l, err := farm.Run(objects, heap, scripts, hands)
	if err != error(api.ErrLimit) || len(l) > 0 {
		t.Errorf("heap %d, %d scripts, %d hands: %d ends, %T %v", heap, len(scripts), hands, len(l), err, err)
	}
}
