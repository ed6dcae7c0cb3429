package farm

import "sync"

// task: a thing that a hand works on, and its place among all things.
type task[T any] struct {
	place int
	thing T
}

// share deals things out to hands (at least one), in turn; it answers what the work makes of each, in their order. Each hand has a channel of its own, and no two write one result: how they run is not to be seen.
func share[T, R any](things []T, hands int, work func(T) R) []R {
	results := make([]R, len(things))
	channels := make([]chan task[T], hands)
	var working sync.WaitGroup
	working.Add(hands)
	for i := range channels {
		tasks := make(chan task[T], len(things)) // room for all: a slow hand keeps none of the others waiting
		channels[i] = tasks
		go func() {
			defer working.Done()
			for t := range tasks {
				results[t.place] = work(t.thing)
			}
		}()
	}
	for place, thing := range things {
		channels[place%hands] <- task[T]{place, thing}
	}
	for _, tasks := range channels {
		close(tasks)
	}
	working.Wait()
	return results
}
