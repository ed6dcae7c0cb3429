package whole

import (
	"fmt"
	"strings"
	"testing"

	"oberlin/api"
	"oberlin/console"
)

// session is the lines by which a session gets a program, a heap and a script, and runs it.
func session(texts []string, heap int, script []api.Deed) string {
	var lines []string
	for _, x := range texts {
		lines = append(lines, "text", strings.TrimSuffix(x, "\n"), ".")
	}
	lines = append(lines, fmt.Sprint("heap ", heap))
	for _, x := range script {
		line := "do " + x.Module + " " + x.Proc
		for _, n := range x.Input {
			line += fmt.Sprint(" ", n)
		}
		lines = append(lines, line)
	}
	return strings.Join(append(lines, "run"), "\n")
}

// The second point, line by line: a session tells of a program what its trees do.
func TestSessions(t *testing.T) {
	held := 0
	for seed := range int64(drawn) {
		texts, commands := draw(seed)
		deeds := collecting(seed, script(seed, commands))
		heap := []int{20, 200, api.MaxHeap}[seed%3]
		said := session(texts, heap, deeds)
		want := "too long\n"
		if len(said) <= api.MaxText {
			held++
			var events []string
			for _, e := range run(t, texts, heap, deeds) {
				events = append(events, strings.Trim(fmt.Sprint(append([]int{e.Trap, e.Used}, e.Out...)), "[]"))
			}
			want = strings.Repeat("ok\n", len(texts)+1+len(deeds)) + strings.Join(events, "|") + "\n"
		}
		if got := console.Session(said); got != want {
			t.Fatalf("%q, wanted %q of\n%s", got, want, said)
		}
	}
	if held < drawn/10 {
		t.Errorf("only %d programs are short enough", held)
	}
}
