package whole

import (
	"fmt"
	"math/rand"
	"slices"
	"strings"
	"testing"

	"oberlin/api"
	"oberlin/parse"
	"oberlin/print"
	"oberlin/tidy"
)

// drawn: how many programs each test draws.
const drawn = 500

// run tells the events of a program that is right: those of its trees, which must be those of its code.
func run(t *testing.T, texts []string, heap int, script []api.Deed) []api.Event {
	t.Helper()
	return doesTheSame(t, texts, compile(t, texts), heap, script)
}

// collecting is a script with collections laid into it.
func collecting(seed int64, script []api.Deed) (l []api.Deed) {
	r := rand.New(rand.NewSource(seed))
	for _, x := range script {
		if r.Intn(2) == 0 {
			l = append(l, api.Deed{})
		}
		l = append(l, x)
	}
	return l
}

// The fourth point: collections change nothing of what is put out, while there is room without them.
func TestCollections(t *testing.T) {
	for seed := range int64(drawn) {
		texts, commands := draw(seed)
		plain := script(seed, commands)
		collected := collecting(seed, plain)
		for _, heap := range []int{40, api.MaxHeap} {
			a, b := run(t, texts, heap, plain), run(t, texts, heap, collected)
			sameButForCollections(t, len(texts), a, b, collected)
		}
	}
}

// sameButForCollections holds the events of a script with collections against those of one without.
func sameButForCollections(t *testing.T, bodies int, plain, collected []api.Event, script []api.Deed) {
	t.Helper()
	k := 0
	for i, e := range collected {
		if i >= bodies && script[i-bodies].Module == "" {
			if e.Trap != api.Ended || len(e.Out) > 0 || e.Used > collected[i-1].Used {
				t.Fatalf("a collection: %v behind %v", e, collected[i-1])
			}
			continue
		}
		p := plain[k]
		if k++; p.Trap == api.TrapFull {
			return
		}
		if e.Trap != p.Trap || !slices.Equal(e.Out, p.Out) || e.Used > p.Used {
			t.Fatalf("%v with collections, %v without", e, p)
		}
	}
}

// G5: a collection right behind another one changes nothing.
func TestCollectedTwice(t *testing.T) {
	for seed := range int64(drawn) {
		texts, commands := draw(seed)
		l := run(t, texts, 200, append(script(seed, commands), api.Deed{}, api.Deed{}))
		if last := len(l) - 1; l[last].Used != l[last-1].Used {
			t.Fatalf("%v behind %v", l[last], l[last-1])
		}
	}
}

// The fourth point: more room changes nothing but where there was none.
func TestRoom(t *testing.T) {
	for seed := range int64(drawn) {
		texts, commands := draw(seed)
		deeds := collecting(seed, script(seed, commands))
		wide := run(t, texts, api.MaxHeap, deeds)
		for _, heap := range []int{0, 1, 20, 200} {
			for i, e := range run(t, texts, heap, deeds) {
				if e.Used > heap {
					t.Fatalf("%d words of %d", e.Used, heap)
				}
				if e.Trap == api.TrapFull {
					if n := len(e.Out); n > len(wide[i].Out) || !slices.Equal(e.Out, wide[i].Out[:n]) {
						t.Fatalf("%v, and %v with more room", e, wide[i])
					}
					break
				}
				if fmt.Sprint(e) != fmt.Sprint(wide[i]) {
					t.Fatalf("%v, and %v with more room", e, wide[i])
				}
			}
		}
	}
}

// The fourth point: as many words as are used are enough; with one less there is no room where the last one was needed.
func TestJustEnough(t *testing.T) {
	for seed := range int64(drawn) {
		texts, commands := draw(seed)
		deeds := collecting(seed, script(seed, commands))
		wide := run(t, texts, api.MaxHeap, deeds)
		most, first := 0, 0
		for i, e := range wide {
			if e.Used > most {
				most, first = e.Used, i
			}
		}
		if most == 0 {
			continue
		}
		if just := run(t, texts, most, deeds); wide[first].Trap != api.TrapFull && fmt.Sprint(just) != fmt.Sprint(wide) {
			t.Fatalf("%v, and %v with more room", just, wide)
		}
		few := run(t, texts, most-1, deeds)
		if fmt.Sprint(few[:first]) != fmt.Sprint(wide[:first]) || few[first].Trap != api.TrapFull || few[first].Used >= most {
			t.Fatalf("%v, and %v with a word more", few, wide)
		}
	}
}

// The fifth point: what is tidied does what it did.
func TestTidied(t *testing.T) {
	others := 0
	for seed := range int64(drawn) {
		texts, commands := draw(seed)
		tidied := make([]string, len(texts))
		for i, text := range texts {
			tidied[i] = tidyText(t, text)
			if as, _ := parse.Parse(text); tidied[i] != text && tidied[i] != textOf(t, as) {
				others++
			}
		}
		deeds := script(seed, commands)
		a, b := run(t, texts, 100, deeds), run(t, tidied, 100, deeds)
		if fmt.Sprint(a) != fmt.Sprint(b) {
			t.Fatalf("%v, and tidied %v:\n%s", a, b, strings.Join(tidied, "\n"))
		}
	}
	if others < drawn/2 {
		t.Errorf("only %d texts were changed", others)
	}
}

// tidyText is a text with what is plain worked out; one that would be too long stays as it is.
func tidyText(t *testing.T, text string) string {
	n, err := parse.Parse(text)
	if err != nil {
		t.Fatal(err)
	}
	n, err = tidy.Fold(n)
	if err != nil {
		t.Fatal(err)
	}
	if s := textOf(t, n); s != "" {
		return s
	}
	return text
}

// textOf a tree; empty, if it is too long.
func textOf(t *testing.T, n api.Node) string {
	s, err := print.Text(n)
	if err != nil && err != api.ErrLimit {
		t.Fatal(err)
	}
	return s
}
