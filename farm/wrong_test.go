package farm_test

import (
	"math"
	"slices"
	"testing"

	"oberlin/api"
	"oberlin/farm"
)

// L1: what can't be at all: too many scripts, no hands or too many, no such heap; it is told ahead of what is wrong with objects and scripts.
func TestLimits(t *testing.T) {
	good := compiled(t, list, user)
	for _, objects := range [][][]byte{good, nil, {nil}, {good[1]}, make([][]byte, api.MaxModules+1)} {
		for _, script := range [][]api.Deed{nil, deeds("Go"), make([]api.Deed, api.MaxDeeds+1), {do("Go", math.MaxInt)}} {
			one := [][]api.Deed{script}
			for _, hands := range []int{0, -1, api.MaxHands + 1, math.MinInt, math.MaxInt} {
				refused(t, objects, 20, one, hands)
				refused(t, objects, 20, nil, hands)
			}
			for _, heap := range []int{-1, api.MaxHeap + 1, math.MinInt, math.MaxInt} {
				refused(t, objects, heap, one, 1)
				refused(t, objects, heap, nil, api.MaxHands)
			}
			for _, count := range []int{api.MaxRuns + 1, 10 * api.MaxRuns} {
				refused(t, objects, 20, slices.Repeat(one, count), 1)
				refused(t, objects, 20, slices.Repeat(one, count), api.MaxHands)
			}
		}
	}
	refused(t, good, -1, make([][]api.Deed, api.MaxRuns+1), 0)
}

// L1: the most and the least that may be are no error.
func TestJustWithin(t *testing.T) {
	objects := compiled(t, counter)
	for _, heap := range []int{0, api.MaxHeap} {
		for _, hands := range []int{1, api.MaxHands} {
			for _, count := range []int{0, 1, api.MaxRuns} {
				l, err := farm.Run(objects, heap, slices.Repeat(scripts("next"), count), hands)
				want := slices.Repeat([]farm.End{{Sum: 1, Used: 2}}, count)
				if heap == 0 {
					want = slices.Repeat([]farm.End{{Traps: 1, Sum: 1}}, count)
				}
				if err != nil || !slices.Equal(l, want) {
					t.Errorf("heap %d, %d hands, %d scripts: %v, %v", heap, hands, count, l, err)
				}
			}
		}
	}
}

// wrongScripts: what no deed, no script may be; each does something, too, that would be seen.
func wrongScripts() [][]api.Deed {
	return [][]api.Deed{
		slices.Repeat(deeds("next"), api.MaxDeeds+1),
		{do("next"), do("next", make([]int, api.MaxDeeds+1)...)},
		{do("next"), {Input: make([]int, api.MaxDeeds+1)}},
		{do("next"), do("next", 1, math.MaxInt32+1)}, {do("next"), do("next", math.MinInt32-1)}, {do("nix", math.MaxInt)}, {{Input: []int{math.MinInt}}},
	}
}

// L1: a script that can't be has its error in its End, the others being 0; those beside it are played.
func TestWrongScripts(t *testing.T) {
	objects := compiled(t, counter)
	var all [][]api.Deed
	var want []farm.End
	for _, wrong := range wrongScripts() {
		plays(t, objects, 20, [][]api.Deed{wrong}, farm.End{Err: api.ErrLimit})
		all = append(all, wrong, deeds("next next nix"))
		want = append(want, farm.End{Err: api.ErrLimit}, farm.End{Traps: 1, Sum: 3, Used: 4})
	}
	plays(t, objects, 20, all, want...)
	most := slices.Repeat([]api.Deed{do("next", slices.Repeat([]int{math.MaxInt32, math.MinInt32}, api.MaxDeeds/2)...)}, api.MaxDeeds)
	plays(t, objects, 100, [][]api.Deed{most, wrongScripts()[0]}, farm.End{Sum: 820, Used: 80}, farm.End{Err: api.ErrLimit})
}

// L1: what Load says stands in each End, by its number alone, the others being 0; it is told ahead of what is wrong with a script.
func TestWrongObjects(t *testing.T) {
	l := compiled(t, list, user)
	broken := slices.Clone(l[1])
	broken[len(broken)/2] ^= 1
	other := compiled(t, "MODULE L; CONST two* = 3; END L.")[0]
	all := append(scripts("", "Go", ". ."), wrongScripts()...)
	for _, x := range []struct {
		e       api.Errno
		objects [][]byte
	}{
		{api.ErrLimit, make([][]byte, api.MaxModules+1)},
		{api.ErrLimit, append(compiled(t, list, user, "MODULE A; END A.", "MODULE B; END B.", "MODULE C; END C.", "MODULE D; END D."), l[0])},
		{api.ErrForm, [][]byte{nil}}, {api.ErrForm, [][]byte{[]byte(list), l[1]}}, {api.ErrForm, [][]byte{l[0], broken}}, {api.ErrForm, [][]byte{l[0], l[1][:len(l[1])-1]}}, {api.ErrForm, [][]byte{broken, l[0], l[0]}},
		{api.ErrTwice, [][]byte{l[0], l[0]}}, {api.ErrTwice, [][]byte{l[0], l[0], broken}}, {api.ErrTwice, [][]byte{l[0], other, l[1]}},
		{api.ErrName, [][]byte{l[1]}}, {api.ErrName, [][]byte{l[1], l[0]}}, {api.ErrName, [][]byte{l[1], broken}},
		{api.ErrKey, [][]byte{other, l[1]}}, {api.ErrKey, [][]byte{other, l[1], broken}},
	} {
		plays(t, x.objects, 20, all, slices.Repeat([]farm.End{{Err: x.e}}, len(all))...)
	}
}
