package side

import (
	"sync"

	"threefold/api"
)

// piece of work that is done: its number goes with it, as pieces are done in any order.
type piece[T any] struct {
	at     int
	answer T
	err    error
}

// each answers in the order of the numbers. All of them are done also where one has an error: only so is the first of the errors found by any number of workers.
func each[T any](n, workers int, do func(at int) (T, error)) ([]T, error) {
	answers := make([]T, n)
	for at, p := range allDone(n, workers, do) {
		if p.err != nil {
			return nil, &api.Fault{At: at, Err: p.err}
		}
		answers[at] = p.answer
	}
	return answers, nil
}

// allDone answers when its workers have ended.
func allDone[T any](n, workers int, do func(at int) (T, error)) []piece[T] {
	numbers := make(chan int)
	done := make(chan piece[T])
	var running sync.WaitGroup
	running.Add(workers)
	for range workers {
		go func() {
			defer running.Done()
			work(numbers, done, do)
		}()
	}
	pieces := exchange(n, numbers, done)
	close(numbers)
	running.Wait()
	return pieces
}

func work[T any](numbers <-chan int, done chan<- piece[T], do func(at int) (T, error)) {
	for at := range numbers {
		answer, err := do(at)
		done <- piece[T]{at: at, answer: answer, err: err}
	}
}

// exchange hands numbers out and takes pieces in by one select: a worker that has done its piece is never kept waiting by one that is to get a number. Whichever it takes first, each piece goes to the place of its number.
func exchange[T any](n int, numbers chan<- int, done <-chan piece[T]) []piece[T] {
	pieces := make([]piece[T], n)
	next := 0
	for taken := 0; taken < n; {
		out := numbers
		if next == n {
			out = nil // nothing is left to hand out: it is never ready
		}
		select {
		case out <- next:
			next++
		case p := <-done:
			pieces[p.at] = p
			taken++
		}
	}
	return pieces
}
