package mean_test

import (
	"testing"

	"oberlin/api"
	"oberlin/check"
	"oberlin/mean"
)

// Z1: every call ends, and none panics, whatever the texts are.
func FuzzRun(f *testing.F) {
	f.Add(list, lists, 20)
	f.Add("MODULE A; VAR i*: INTEGER; PROCEDURE f*(n: INTEGER): INTEGER; BEGIN RETURN f(n + 1) END f; BEGIN i := f(0) END A.", "MODULE M; IMPORT A; PROCEDURE push*; BEGIN REPEAT A.i := A.i DIV A.f(1) UNTIL FALSE END push; END M.", 0)
	f.Fuzz(func(t *testing.T, a, b string, heap int) {
		script := deeds("push", ".", "sum", "pop")
		l, err := mean.Run([]string{a, b}, heap, script)
		if err == nil && len(l) != 2+len(script) || err != nil && l != nil {
			t.Fatalf("%v, %v", l, err)
		}
		if wrong := check.Check([]string{a, b}); err == nil && wrong != nil || err != nil && wrong == nil && err != api.ErrLimit {
			t.Fatalf("%v, but %v", err, wrong)
		}
		for _, e := range l {
			if e.Used < 0 || e.Used > heap {
				t.Fatalf("%v", e)
			}
		}
	})
}
