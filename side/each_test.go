package side

import (
	"errors"
	"runtime"
	"slices"
	"sync"
	"sync/atomic"
	"testing"

	"threefold/api"
)

// meeting ends for all when as many are there as are awaited.
type meeting struct {
	sync.WaitGroup
}

func (m *meeting) arrive() {
	m.Done()
	m.Wait()
}

// By as many as are asked for: were it fewer, they would wait for each other for ever.
func TestAsManyWorkAtOnce(t *testing.T) {
	for workers := 1; workers <= api.Workers; workers++ {
		const laps = 3
		var meetings [laps]meeting
		for lap := range laps {
			meetings[lap].Add(workers)
		}
		var begun atomic.Int64
		got, err := each(laps*workers, workers, func(at int) (int, error) {
			lap := int(begun.Add(1)-1) / workers
			meetings[lap].arrive()
			return -at, nil
		})
		if err != nil || len(got) != laps*workers {
			t.Fatalf("%d workers: %v, %v", workers, got, err)
		}
		for at := range got {
			if got[at] != -at {
				t.Errorf("%d workers: %v", workers, got)
			}
		}
	}
}

// Each lets the others go on while it works, so that too many would be seen.
func TestNoMoreWorkAtOnce(t *testing.T) {
	for workers := 1; workers <= api.Workers; workers++ {
		var at, most atomic.Int64
		_, err := each(100, workers, func(int) (struct{}, error) {
			now := at.Add(1)
			for is := most.Load(); now > is && !most.CompareAndSwap(is, now); is = most.Load() {
			}
			for range 20 {
				runtime.Gosched()
			}
			at.Add(-1)
			return struct{}{}, nil
		})
		if err != nil || int(most.Load()) > workers {
			t.Errorf("%d workers: %d at once, %v", workers, most.Load(), err)
		}
	}
}

// Each number is worked on once.
func TestEachOnce(t *testing.T) {
	for workers := 1; workers <= api.Workers; workers++ {
		for n := range 40 {
			count := make([]atomic.Int64, n)
			got, err := each(n, workers, func(at int) (string, error) {
				count[at].Add(1)
				return string(rune('a' + at)), nil
			})
			if err != nil || len(got) != n {
				t.Fatalf("%d of %d: %v, %v", n, workers, got, err)
			}
			for at := range n {
				if count[at].Load() != 1 || got[at] != string(rune('a'+at)) {
					t.Errorf("%d of %d: %q, %d times at %d", n, workers, got, count[at].Load(), at)
				}
			}
		}
	}
}

// Where those behind are done first, the answers stand in the same order.
func TestLaterOnesFirst(t *testing.T) {
	for workers := 2; workers <= api.Workers; workers++ {
		n := 3 * workers
		var others sync.WaitGroup
		others.Add(n - 1)
		got, err := each(n, workers, func(at int) (int, error) {
			if at == 0 {
				others.Wait()
			} else {
				others.Done()
			}
			return at, nil
		})
		if err != nil || len(got) != n || !slices.IsSorted(got) {
			t.Errorf("%d workers: %v, %v", workers, got, err)
		}
	}
}

// The first error is that of the least number, also if it is the last to be found.
func TestFirstErrorIsFoundLast(t *testing.T) {
	for workers := 2; workers <= api.Workers; workers++ {
		n := 2 * workers
		var others sync.WaitGroup
		others.Add(n - 2)
		got, err := each(n, workers, func(at int) (int, error) {
			switch at {
			case 0:
				return at, nil
			case 1:
				others.Wait()
				return at, api.ErrSum
			}
			others.Done()
			return at, api.ErrText
		})
		var f *api.Fault
		if len(got) != 0 || !errors.As(err, &f) || f.At != 1 || f.Err != api.ErrSum {
			t.Errorf("%d workers: %v, %v", workers, got, err)
		}
	}
}
