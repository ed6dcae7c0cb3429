package drive_test

import (
	"strconv"
	"strings"
	"testing"

	"oberlin/api"
	"oberlin/drive"
	"oberlin/gen"
	"oberlin/mean"
)

// told is an event: its trap, the words used, and what was put out.
func told(e api.Event) string {
	s := strconv.Itoa(e.Trap) + " " + strconv.Itoa(e.Used)
	for _, x := range e.Out {
		s += " " + strconv.Itoa(x)
	}
	return s
}

func allTold(l []api.Event) string {
	var s []string
	for _, e := range l {
		s = append(s, told(e))
	}
	return strings.Join(s, "|")
}

// compiled are the objects of texts that are right.
func compiled(t *testing.T, texts ...string) [][]byte {
	t.Helper()
	l, err := gen.Compile(texts)
	if err != nil || len(l) != len(texts) {
		t.Fatalf("%d objects, %v of %q", len(l), err, texts)
	}
	return l
}

// runs holds all events of texts and a script against what is wanted, and against what trees do.
func runs(t *testing.T, texts []string, heap int, script []api.Deed, want string) {
	t.Helper()
	l, err := drive.Run(compiled(t, texts...), heap, script)
	if got := allTold(l); err != nil || got != want {
		t.Errorf("%s, %v; wanted %s:\n%s", got, err, want, strings.Join(texts, "\n"))
	}
	trees, err := mean.Run(texts, heap, script)
	if got := allTold(trees); err != nil || got != want {
		t.Errorf("trees: %s, %v; wanted %s:\n%s", got, err, want, strings.Join(texts, "\n"))
	}
}

// act: declarations, acts behind them, and what is wanted to come of these.
type act struct{ declared, acts, want string }

// doesAll holds what comes of acts against what is wanted, both of a module's and of a procedure's, which find the same variables at first.
func doesAll(t *testing.T, l []act) {
	t.Helper()
	for _, x := range l {
		runs(t, []string{"MODULE M; " + x.declared + " BEGIN " + x.acts + " END M."}, 100, nil, x.want)
		runs(t, []string{"MODULE M; " + x.declared + " PROCEDURE go*; BEGIN " + x.acts + " END go; END M."}, 100, []api.Deed{do("go")}, "0 0|"+x.want)
	}
}

// do is a deed of module M.
func do(name string, input ...int) api.Deed { return api.Deed{Module: "M", Proc: name, Input: input} }

// deeds of module M, by their names; each reads its place in the list, from 1 on; a dot is a collection.
func deeds(names string) (l []api.Deed) {
	for i, s := range strings.Fields(names) {
		if s == "." {
			l = append(l, api.Deed{})
		} else {
			l = append(l, do(s, i+1))
		}
	}
	return l
}
