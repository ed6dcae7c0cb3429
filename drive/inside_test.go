package drive

import (
	"slices"
	"testing"

	"oberlin/api"
	"oberlin/gen"
	"oberlin/link"
)

// inside: a module whose commands leave something on the stack, or in memory, if anything does.
const inside = `MODULE M;
TYPE P = POINTER TO N; N = RECORD v: INTEGER; n: P; END; Row = ARRAY 3 OF P; B = RECORD (N) row: Row; END; PB = POINTER TO B; Rec = RECORD a: N; r: Row; END;
VAR i: INTEGER; p: P; q: PB; rec: Rec; b: BOOLEAN;
PROCEDURE f(x: INTEGER; VAR y: INTEGER; VAR r: Rec): INTEGER; VAR z: Rec; BEGIN z := r; y := x; WHILE x > 0 DO IF b OR (x < 3) & ~b THEN RETURN x ELSE x := x - 1 END END; RETURN f(3, z.a.v, z) END f;
PROCEDURE make*; BEGIN NEW(q); q.n := p; p := q; NEW(q.row[1]); q.row[1].n := p; NEW(rec.a.n); rec.r[2] := q.row[1]; i := f(4, q.v, rec) + f(0, i, rec); OUT(i) END make;
PROCEDURE loop*; BEGIN REPEAT i := i - 1; b := (i > 2) & (p # NIL) OR ~b UNTIL i < 0; IF p IS PB THEN OUT(p{PB}.row[1].v) ELSIF b THEN RETURN END; GET(i); ASSERT(i = 0) END loop;
PROCEDURE deep*; VAR r: Rec; BEGIN OUT(f(3, r.a.v, r) + f(2, i, r) DIV (p.v - p.v)) END deep;
PROCEDURE drop*; BEGIN p := NIL; rec.r := q.row; q := NIL END drop;
BEGIN i := f(2, i, rec) END M.`

// A command leaves nothing on the stack, nor in memory but what is kept; what a trap leaves is gone when the next one begins.
func TestNothingLeft(t *testing.T) {
	m, commands := insideMachine(t)
	m.perform(nil, m.body(m.Modules[0]))
	for i, name := range []string{"", "make", "loop", "deep", "loop", "make", "deep", "drop", "loop", "deep", "make", "make"} {
		e := m.perform(nil, commands[name])
		if e.Trap == api.Ended && (len(m.stack) > 0 || m.calls > 0 || len(m.memory) != m.kept) {
			t.Errorf("%s: %v on the stack, %d calls, %d words behind what is kept", name, m.stack, m.calls, len(m.memory)-m.kept)
		}
		if wanted := name == "deep"; wanted != (e.Trap != api.Ended) {
			t.Errorf("%d: %s: %v", i, name, e)
		}
	}
}

// Behind a collection records lie one behind the other, and each pointer points to the first word of one.
func TestMovedTogether(t *testing.T) {
	m, commands := insideMachine(t)
	for _, name := range []string{"make", "", "make", "make", "", "drop", "", "", "make", "loop", ""} {
		if m.perform(nil, commands[name]); name != "" {
			continue
		}
		var found []word
		for at := m.first; at < m.end(); at += 1 + m.recordAt(word(at)).Words {
			found = append(found, word(at))
		}
		look := func(pointer word) word {
			if pointer != none && !slices.Contains(found, pointer) {
				t.Errorf("%d points to none of %v", pointer, found)
			}
			return pointer
		}
		m.points(0, m.Points, look)
		for _, at := range found {
			m.points(int(at)+1, m.recordAt(at).Points, look)
		}
	}
}

// insideMachine is a machine of that module, with its commands; the empty one is a collection.
func insideMachine(t *testing.T) (*machine, map[string]func()) {
	t.Helper()
	objects, err := gen.Compile([]string{inside})
	if err != nil {
		t.Fatal(err)
	}
	image, err := link.Load(objects)
	if err != nil {
		t.Fatal(err)
	}
	m := newMachine(image, 100)
	commands := map[string]func(){"": m.collect}
	for _, name := range []string{"make", "loop", "deep", "drop"} {
		commands[name] = m.deed(api.Deed{Module: "M", Proc: name})
	}
	return m, commands
}
