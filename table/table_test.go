package table_test

import (
	"math"
	"slices"
	"testing"

	"threefold/api"
	"threefold/table"
)

// s is a state with a promise that would win every comparison, so that no choice may hang on it.
func s(phase, attempt int) api.State {
	return api.State{Phase: phase, Promise: api.MaxAttempt, Attempt: attempt}
}

func chooses(t *testing.T, l []api.State, phase int, final bool) {
	t.Helper()
	if p, f := table.Choose(l); p != phase || f != final {
		t.Errorf("Choose(%v): %d, %v, want %d, %v", l, p, f, phase, final)
	}
}

// P50: what is chosen.

func TestNoneIsPrepared(t *testing.T) {
	for _, l := range [][]api.State{
		nil,
		{},
		{{}},
		{s(api.Nothing, 7)},
		{s(api.Voted, 7)},
		{s(api.Voted, 0), s(api.Voted, 0), s(api.Voted, 0)},
		{s(api.Nothing, 0), s(api.Voted, 9)},
	} {
		chooses(t, l, api.PreAbort, false)
	}
}

func TestAnEndIsFinal(t *testing.T) {
	others := []api.State{s(api.Nothing, 9), s(api.Voted, 9), s(api.PreCommit, 9), s(api.PreAbort, 9)}
	for _, end := range []int{api.Committed, api.Aborted} {
		for _, attempt := range []int{math.MinInt, -1, 0, 9, math.MaxInt} {
			chooses(t, []api.State{s(end, attempt)}, end, true)
			for at := range len(others) + 1 {
				chooses(t, slices.Insert(slices.Clone(others), at, s(end, attempt)), end, true)
			}
		}
	}
}

func TestCommittedAheadOfAborted(t *testing.T) {
	for _, a := range []int{0, 4} {
		for _, b := range []int{0, 4} {
			chooses(t, []api.State{s(api.Aborted, a), s(api.Committed, b)}, api.Committed, true)
			chooses(t, []api.State{s(api.Committed, a), s(api.Aborted, b)}, api.Committed, true)
			chooses(t, []api.State{s(api.Aborted, a), s(api.Aborted, 9), s(api.Committed, b)}, api.Committed, true)
		}
	}
}

func TestGreatestAttempt(t *testing.T) {
	for _, c := range []struct {
		l     []api.State
		phase int
	}{
		{[]api.State{s(api.PreCommit, 0)}, api.PreCommit},
		{[]api.State{s(api.PreAbort, 0)}, api.PreAbort},
		{[]api.State{s(api.Voted, 0), s(api.PreAbort, 3), s(api.PreCommit, 0)}, api.PreAbort},
		{[]api.State{s(api.Voted, 9), s(api.Nothing, 9), s(api.PreCommit, 0)}, api.PreCommit},
		{[]api.State{s(api.PreCommit, 3), s(api.PreAbort, 4), s(api.PreCommit, 2)}, api.PreAbort},
		{[]api.State{s(api.PreAbort, 3), s(api.PreCommit, 4), s(api.PreAbort, 2)}, api.PreCommit},
		{[]api.State{s(api.PreAbort, 9), s(api.PreAbort, 10), s(api.PreCommit, 10)}, api.PreCommit},
		{[]api.State{s(api.PreCommit, 1), s(api.PreCommit, 1), s(api.PreAbort, 2)}, api.PreAbort},
		{[]api.State{s(api.PreAbort, api.MaxAttempt), s(api.PreCommit, api.MaxAttempt-1)}, api.PreAbort},
	} {
		chooses(t, c.l, c.phase, false)
	}
}

func TestPromisesDoNotCount(t *testing.T) {
	for _, promise := range []int{0, 1, 5, api.MaxAttempt, math.MaxInt, math.MinInt} {
		a := api.State{Phase: api.PreCommit, Promise: promise, Attempt: 1}
		chooses(t, []api.State{a, {Phase: api.PreAbort, Promise: 3, Attempt: 2}}, api.PreAbort, false)
		chooses(t, []api.State{a, {Phase: api.PreAbort, Promise: 3, Attempt: 0}}, api.PreCommit, false)
	}
}

// Attempts that no site has are held against each other as numbers all the same.
func TestAttemptsOutOfBounds(t *testing.T) {
	l := []int{math.MinInt, math.MinInt + 1, -2, -1, 0, 1, api.MaxAttempt, api.MaxAttempt + 1, math.MaxInt - 1, math.MaxInt}
	for i, a := range l {
		chooses(t, []api.State{s(api.PreCommit, a)}, api.PreCommit, false)
		chooses(t, []api.State{s(api.PreAbort, a)}, api.PreAbort, false)
		for k, b := range l {
			want := api.PreCommit
			if k > i {
				want = api.PreAbort
			}
			chooses(t, []api.State{s(api.PreCommit, a), s(api.PreAbort, b)}, want, false)
		}
	}
}

func TestNoPhaseIsPassedOver(t *testing.T) {
	for _, no := range []int{math.MinInt, -2, -1, 6, 7, 258, math.MaxInt} {
		chooses(t, []api.State{s(no, 9)}, api.PreAbort, false)
		chooses(t, []api.State{s(no, 9), s(api.PreCommit, 1)}, api.PreCommit, false)
		chooses(t, []api.State{s(api.PreAbort, 2), s(no, 9), s(api.PreCommit, 1)}, api.PreAbort, false)
		chooses(t, []api.State{s(no, 9), s(api.Aborted, 1)}, api.Aborted, true)
	}
}

func TestManyStates(t *testing.T) {
	l := make([]api.State, 0, 2001)
	for i := range 1000 {
		l = append(l, s(api.PreAbort, i), s(api.PreCommit, i))
	}
	chooses(t, l, api.PreCommit, false)
	chooses(t, append(l, s(api.PreAbort, 1000)), api.PreAbort, false)
	chooses(t, append(l, s(api.Committed, 0)), api.Committed, true)
}

// P3 and P4: the list is only read, and nothing behind its length is.
func TestListIsOnlyRead(t *testing.T) {
	l := []api.State{s(api.PreAbort, 4), s(api.Voted, 0), s(api.PreCommit, 2), s(api.Committed, 0)}
	before := slices.Clone(l)
	chooses(t, l[:3], api.PreAbort, false)
	chooses(t, l[:0], api.PreAbort, false)
	if !slices.Equal(l, before) {
		t.Errorf("%v, was %v", l, before)
	}
}

// P51: what lies behind a phase, and where a site may go.

func TestAfter(t *testing.T) {
	for phase, want := range map[int]int{
		api.Nothing: 0, api.Voted: 0, api.Committed: 0, api.Aborted: 0,
		api.PreCommit: api.Committed, api.PreAbort: api.Aborted,
		-1: 0, 6: 0, 7: 0, 4 + 256: 0, 5 - 256: 0, math.MinInt: 0, math.MaxInt: 0,
	} {
		if got := table.After(phase); got != want {
			t.Errorf("After(%d): %d, want %d", phase, got, want)
		}
	}
}

func TestMay(t *testing.T) {
	all := []int{api.Nothing, api.Voted, api.Committed, api.Aborted, api.PreCommit, api.PreAbort}
	for _, c := range []struct {
		from int
		to   []int
	}{
		{api.Nothing, all},
		{api.Voted, []int{api.Voted, api.Committed, api.Aborted, api.PreCommit, api.PreAbort}},
		{api.PreCommit, []int{api.PreAbort, api.Committed, api.Aborted, api.PreCommit}},
		{api.PreAbort, []int{api.PreCommit, api.Committed, api.Aborted, api.PreAbort}},
		{api.Committed, []int{api.Committed}},
		{api.Aborted, []int{api.Aborted}},
	} {
		for _, to := range all {
			if got, want := table.May(c.from, to), slices.Contains(c.to, to); got != want {
				t.Errorf("May(%d, %d): %v, want %v", c.from, to, got, want)
			}
		}
	}
}

func TestNoPhaseMayNever(t *testing.T) {
	none := []int{math.MinInt, -256, -2, -1, 6, 7, 256, 260, math.MaxInt}
	for _, no := range none {
		for phase := api.Nothing; phase <= api.PreAbort; phase++ {
			if table.May(no, phase) || table.May(phase, no) {
				t.Errorf("%d and %d", no, phase)
			}
		}
		for _, other := range none {
			if table.May(no, other) {
				t.Errorf("from %d to %d", no, other)
			}
		}
	}
}

// What Choose leaves open may be decided, and what is decided stays.
func TestAfterIsAnEndThatMayBe(t *testing.T) {
	for _, phase := range []int{api.PreCommit, api.PreAbort} {
		if end := table.After(phase); !table.May(phase, end) || table.May(end, phase) {
			t.Errorf("%d behind %d", end, phase)
		}
	}
}

// P52: the order makes no difference. The lists come from small ones up: each is tried in all orders.

// want reads P50 anew, by sorting, so that the program's way is held against another one.
func want(l []api.State) (int, bool) {
	l = slices.Clone(l)
	has := func(phase int) bool {
		return slices.ContainsFunc(l, func(x api.State) bool { return x.Phase == phase })
	}
	if has(api.Committed) {
		return api.Committed, true
	}
	if has(api.Aborted) {
		return api.Aborted, true
	}
	l = slices.DeleteFunc(l, func(x api.State) bool { return x.Phase != api.PreCommit && x.Phase != api.PreAbort })
	slices.SortFunc(l, func(a, b api.State) int { return b.Attempt - a.Attempt })
	l = slices.DeleteFunc(l, func(x api.State) bool { return x.Attempt != l[0].Attempt })
	if has(api.PreCommit) {
		return api.PreCommit, false
	}
	return api.PreAbort, false
}

// orders of a list, all of them.
func orders(l []api.State, from int, do func(l []api.State)) {
	if from == len(l) {
		do(l)
		return
	}
	for i := from; i < len(l); i++ {
		l[from], l[i] = l[i], l[from]
		orders(l, from+1, do)
		l[from], l[i] = l[i], l[from]
	}
}

// lists of up to that many states of a pool, each told once in the pool's order.
func lists(pool []api.State, most int, have []api.State, do func(l []api.State)) {
	do(have)
	if len(have) == most {
		return
	}
	for i := range pool {
		lists(pool[i:], most, append(slices.Clone(have), pool[i]), do)
	}
}

func TestOrderMakesNoDifference(t *testing.T) {
	var pool []api.State
	for phase := api.Nothing - 1; phase <= api.PreAbort+1; phase++ {
		for _, attempt := range []int{-1, 0, 2} {
			pool = append(pool, api.State{Phase: phase, Promise: len(pool) % 3, Attempt: attempt})
		}
	}
	count := 0
	lists(pool, 4, nil, func(l []api.State) {
		count++
		phase, final := want(l)
		orders(slices.Clone(l), 0, func(l []api.State) { chooses(t, l, phase, final) })
		if t.Failed() {
			t.FailNow()
		}
	})
	if count != 20475 {
		t.Errorf("%d lists", count)
	}
}

func TestOrderOfSevenSites(t *testing.T) {
	for _, l := range [][]api.State{
		{s(api.Voted, 0), s(api.PreAbort, 3), s(api.PreCommit, 0), s(api.PreCommit, 3), s(api.Nothing, 8), s(api.PreAbort, 2), s(api.PreCommit, 1)},
		{s(api.Voted, 0), s(api.PreAbort, 4), s(api.PreCommit, 0), s(api.PreCommit, 3), s(api.Nothing, 8), s(api.PreAbort, 2), s(api.PreCommit, 1)},
		{s(api.Voted, 0), s(api.PreAbort, 4), s(api.PreCommit, 6), s(api.Aborted, 3), s(api.Nothing, 8), s(api.PreAbort, 2), s(api.Aborted, 0)},
		{s(api.Voted, 0), s(api.PreAbort, 4), s(api.PreCommit, 6), s(api.Aborted, 3), s(api.Committed, 0), s(api.PreAbort, 2), s(api.Aborted, 9)},
	} {
		phase, final := want(l)
		orders(l, 0, func(l []api.State) { chooses(t, l, phase, final) })
	}
}
