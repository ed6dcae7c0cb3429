package farm

import (
	"slices"
	"strconv"
	"sync/atomic"
	"testing"
	"testing/synctest"
	"time"

	"oberlin/api"
)

// What comes of things stands in their order, whichever hand is ready first; of all of them, when share answers.
func TestShareOrder(t *testing.T) {
	for hands := 1; hands <= api.MaxHands; hands++ {
		for count := range 3*api.MaxHands + 1 {
			var things []int
			var want []string
			for i := range count {
				things, want = append(things, 100+i), append(want, strconv.Itoa(100+i))
			}
			synctest.Test(t, func(t *testing.T) {
				var done atomic.Int32
				got := share(things, hands, func(x int) string {
					time.Sleep(time.Duration(x*7%5) * time.Second)
					done.Add(1)
					return strconv.Itoa(x)
				})
				if !slices.Equal(got, want) || int(done.Load()) != count {
					t.Errorf("%d things, %d hands: %v, %d done", count, hands, got, done.Load())
				}
			})
		}
	}
}

// As many hands as are wanted work at the same time, no more and no less. (The clock of synctest goes on when all of them wait.)
func TestShareAtOnce(t *testing.T) {
	for hands := 1; hands <= api.MaxHands; hands++ {
		for count := range 3*api.MaxHands + 1 {
			synctest.Test(t, func(t *testing.T) {
				start := time.Now()
				share(make([]int, count), hands, func(int) int {
					time.Sleep(time.Second)
					return 0
				})
				rounds := (count + hands - 1) / hands
				if took := time.Since(start); took != time.Duration(rounds)*time.Second {
					t.Errorf("%d things, %d hands: %v", count, hands, took)
				}
			})
		}
	}
}

// A hand that is slow keeps the others from nothing.
func TestShareSlow(t *testing.T) {
	synctest.Test(t, func(t *testing.T) {
		start := time.Now()
		var last time.Duration
		share([]int{60, 1, 60, 1, 60, 1}, 2, func(minutes int) int {
			time.Sleep(time.Duration(minutes) * time.Minute)
			if minutes == 1 {
				last = time.Since(start)
			}
			return 0
		})
		if last != 3*time.Minute || time.Since(start) != 3*time.Hour {
			t.Errorf("%v, and %v for all", last, time.Since(start))
		}
	})
}
