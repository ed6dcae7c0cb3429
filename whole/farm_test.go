package whole

import (
	"math/rand"
	"slices"
	"strings"
	"testing"

	"oberlin/api"
	"oberlin/farm"
)

// endOf is what should come of a script by farm, worked out from what trees and code do.
func endOf(t *testing.T, texts []string, objects [][]byte, heap int, script []api.Deed) (end farm.End) {
	t.Helper()
	if len(script) > api.MaxDeeds {
		return farm.End{Err: api.ErrLimit}
	}
	for _, e := range doesTheSame(t, texts, objects, heap, script) {
		if e.Trap != api.Ended {
			end.Traps++
		}
		for _, x := range e.Out {
			end.Sum += x
		}
		end.Used = e.Used
	}
	return end
}

// scriptsOf draws scripts of commands, some with collections, a few of them too long.
func scriptsOf(r *rand.Rand, commands []api.Deed) (l [][]api.Deed) {
	for range r.Intn(13) {
		x := script(r.Int63(), commands)
		switch r.Intn(12) {
		case 0:
			x = slices.Repeat(append(x, commands[0]), api.MaxDeeds+1)
		case 1, 2, 3, 4:
			x = collecting(r.Int63(), x)
		}
		l = append(l, x)
	}
	return l
}

// The sixth point: however many hands play, each script comes to what it comes to alone.
func TestHands(t *testing.T) {
	seen := map[farm.End]bool{}
	for seed := range int64(drawn) {
		texts, commands := draw(seed)
		objects := compile(t, texts)
		r := rand.New(rand.NewSource(seed))
		scripts := scriptsOf(r, commands)
		heap := []int{20, 400, api.MaxHeap}[r.Intn(3)]
		var want []farm.End
		for _, x := range scripts {
			end := endOf(t, texts, objects, heap, x)
			want = append(want, end)
			seen[end] = true
		}
		for hands := 1; hands <= api.MaxHands; hands++ {
			got, err := farm.Run(objects, heap, scripts, hands)
			if err != nil || !slices.Equal(got, want) {
				t.Fatalf("%d hands: %v, %v, wanted %v of\n%s", hands, got, err, want, strings.Join(texts, "\n"))
			}
		}
	}
	if len(seen) < drawn {
		t.Errorf("only %d outcomes", len(seen))
	}
}
