package mean_test

import (
	"strconv"
	"strings"
	"testing"

	"oberlin/api"
	"oberlin/mean"
)

// told is an event: its trap, the words used, and what was put out.
func told(e api.Event) string {
	s := strconv.Itoa(e.Trap) + " " + strconv.Itoa(e.Used)
	for _, x := range e.Out {
		s += " " + strconv.Itoa(x)
	}
	return s
}

func allTold(l []api.Event) string {
	var s []string
	for _, e := range l {
		s = append(s, told(e))
	}
	return strings.Join(s, "|")
}

// runs holds all events of texts and a script against what is wanted.
func runs(t *testing.T, texts []string, heap int, script []api.Deed, want string) {
	t.Helper()
	l, err := mean.Run(texts, heap, script)
	if got := allTold(l); err != nil || got != want {
		t.Errorf("%s, %v; wanted %s:\n%s", got, err, want, strings.Join(texts, "\n"))
	}
}

// does holds what comes of a module's acts, behind some declarations, against what is wanted.
func does(t *testing.T, declared, acts, want string) {
	t.Helper()
	runs(t, []string{"MODULE M; " + declared + " BEGIN " + acts + " END M."}, 100, nil, want)
}

// case of does.
type act struct{ declared, acts, want string }

func doesAll(t *testing.T, l []act) {
	t.Helper()
	for _, x := range l {
		does(t, x.declared, x.acts, x.want)
	}
}

// do is a deed of module M.
func do(name string, input ...int) api.Deed { return api.Deed{Module: "M", Proc: name, Input: input} }
