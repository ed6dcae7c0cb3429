package console_test

import (
	"strings"
	"testing"

	"oberlin/console"
)

// list: the first module of the document's example.
const list = `MODULE L;
CONST two* = 1 + 1;
TYPE P* = POINTER TO R; R* = RECORD v*: INTEGER; n*: P; END; Big = RECORD (R) more: INTEGER; END;
VAR p*: P;
PROCEDURE Push*(x: INTEGER); VAR q: P;
BEGIN NEW(q); q.v := x; q.n := p; p := q END Push;
END L.`

// user: the second one.
const user = `MODULE M; IMPORT L; VAR i: INTEGER;
PROCEDURE Go*;
BEGIN GET(i); WHILE i > 0 DO L.Push(i * L.two); i := i - 1 END; OUT(L.p.v + 2 * 3); L.p := L.p.n
END Go; END M.`

// echo: its command puts out the six numbers that it reads.
const echo = `MODULE E; VAR i: INTEGER; n: INTEGER;
PROCEDURE Six*; BEGIN n := 0; WHILE n < 6 DO GET(i); OUT(i); n := n + 1 END END Six;
END E.`

// hoard: Fill makes records of one word each until there is no room, so that what is used tells the heap; Drop lets go of all of them but one.
const hoard = `MODULE H; TYPE P = POINTER TO R; Q = POINTER TO S; R = RECORD END; S = RECORD n: Q; END; VAR p: P; q: Q;
PROCEDURE Fill*; BEGIN WHILE TRUE DO NEW(p); NEW(p); NEW(p) END END Fill;
PROCEDURE Link*; VAR l: Q; BEGIN NEW(l); l.n := q; q := l END Link;
PROCEDURE Drop*; BEGIN q := NIL END Drop;
END H.`

// text is the lines by which a session gets a text.
func text(module string) string { return "text\n" + module + "\n." }

// talk holds the answers of a session against what is wanted. It has the texts at first; then each line of a talk is a line of the session, " =>", and its answer behind a blank; a line without that has none.
func talk(t *testing.T, texts []string, lines ...string) {
	t.Helper()
	var said, want []string
	for _, x := range texts {
		said, want = append(said, text(x)), append(want, "ok")
	}
	for _, line := range lines {
		line, answer, answered := strings.Cut(line, " =>")
		said = append(said, line)
		if answered {
			want = append(want, strings.TrimPrefix(answer, " "))
		}
	}
	answers(t, strings.Join(said, "\n")+"\n", want...)
}

// answers holds all answers of a session against what is wanted.
func answers(t *testing.T, session string, want ...string) {
	t.Helper()
	whole := ""
	for _, x := range want {
		whole += x + "\n"
	}
	got := console.Session(session)
	if got == whole {
		return
	}
	l := strings.Split(strings.TrimSuffix(got, "\n"), "\n")
	for i, x := range want {
		if i >= len(l) || l[i] != x {
			t.Errorf("answer %d of %d is not %q: %.3000q\nof %.1500q", i, len(want), x, got, session)
			return
		}
	}
	t.Errorf("%d answers, %d are wanted: %.3000q\nof %.1500q", len(l), len(want), got, session)
}

// same is a line of a talk again and again.
func same(line string, count int) (l []string) {
	for range count {
		l = append(l, line)
	}
	return l
}
