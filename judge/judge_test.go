package judge_test

import (
	"math"
	"slices"
	"testing"

	"threefold/api"
	"threefold/judge"
	"threefold/world"
)

// never are numbers that are no site, deal or phase, some of which are one when bits are lost.
var never = []int{math.MinInt, -1 << 32, -256, -64, -1, 8, 32, 64, 65, 256, 258, 1<<32 + 2, 1<<63 - 6, math.MaxInt}

func e(site, deal, phase int) world.Event {
	return world.Event{Site: site, Deal: deal, Phase: phase}
}

// isAt is whether an error is a fault that has just this error, bare, at this place.
func isAt(err error, at int, want error) bool {
	f, is := err.(*api.Fault)
	return is && f.At == at && f.Err == want
}

func well(t *testing.T, l []world.Event, sites int) {
	t.Helper()
	if err := judge.Check(l, sites); err != nil {
		t.Errorf("Check(%v, %d): %v", l, sites, err)
	}
}

func faulty(t *testing.T, l []world.Event, sites, at int, want error) {
	t.Helper()
	if err := judge.Check(l, sites); !isAt(err, at, want) {
		t.Errorf("Check(%v, %d): %#v, want %v at %d", l, sites, err, want, at)
	}
}

// P90: what is well.

func TestWell(t *testing.T) {
	for _, l := range [][]world.Event{
		nil,
		{},
		{e(0, 0, api.Committed)},
		{e(0, 0, api.Aborted)},
		{e(2, 5, api.Aborted), e(0, 5, api.Aborted), e(1, 5, api.Aborted)},
		{e(0, 1, api.Committed), e(1, 2, api.Aborted), e(1, 1, api.Committed)},
		{e(0, 0, api.Committed), e(0, 1, api.Aborted), e(0, 2, api.Committed), e(0, 3, api.Aborted)},
	} {
		well(t, l, 3)
		well(t, l, api.MaxSites)
	}
}

// full is one event of each site and deal, the deals' ends in turn.
func full(sites int) []world.Event {
	var l []world.Event
	for site := range sites {
		for deal := range api.MaxDeals {
			l = append(l, e(site, deal, api.Committed+deal%2))
		}
	}
	return l
}

func TestAllSitesAllDeals(t *testing.T) {
	for sites := 1; sites <= api.MaxSites; sites++ {
		l := full(sites)
		well(t, l, sites)
		slices.Reverse(l)
		well(t, l, sites)
		for fewer := 1; fewer < sites; fewer++ {
			faulty(t, l, fewer, 0, api.ErrBound)
		}
	}
}

func TestSitesOutOfBounds(t *testing.T) {
	for _, sites := range append([]int{0, -7}, never...) {
		// With events that are not well either: the number of sites is told first, and bare.
		for _, l := range [][]world.Event{nil, {}, {e(0, 0, api.Committed)}, {e(-1, -1, -1)}, {e(0, 0, 2), e(0, 0, 3)}, {e(0, 0, 2), e(0, 0, 2)}} {
			if err := judge.Check(l, sites); err != api.ErrBound {
				t.Errorf("Check(%v, %d): %#v", l, sites, err)
			}
		}
	}
}

// P90: events that are none.

func TestEventOutOfBounds(t *testing.T) {
	for sites := 1; sites <= api.MaxSites; sites++ {
		for _, phase := range []int{api.Committed, api.Aborted} {
			well(t, []world.Event{e(sites-1, api.MaxDeals-1, phase)}, sites)
			for _, no := range append([]int{sites, sites + 1, api.MaxSites}, never...) {
				faulty(t, []world.Event{e(no, 0, phase)}, sites, 0, api.ErrBound)
			}
			for _, no := range append([]int{api.MaxDeals, api.MaxDeals + 1}, never...) {
				faulty(t, []world.Event{e(0, no, phase)}, sites, 0, api.ErrBound)
			}
		}
		for _, no := range append([]int{api.Nothing, api.Voted, api.PreCommit, api.PreAbort, 6, 7}, never...) {
			faulty(t, []world.Event{e(0, 0, no)}, sites, 0, api.ErrBound)
			faulty(t, []world.Event{e(0, 1, api.Committed), e(0, 0, api.Aborted), e(0, 0, no)}, sites, 2, api.ErrBound)
		}
	}
}

func TestSplit(t *testing.T) {
	for _, c := range [][2]int{{api.Committed, api.Aborted}, {api.Aborted, api.Committed}} {
		one, other := c[0], c[1]
		faulty(t, []world.Event{e(0, 4, one), e(1, 4, other)}, 2, 1, api.ErrSplit)
		faulty(t, []world.Event{e(0, 4, one), e(1, 4, one), e(1, 3, other), e(2, 4, other), e(2, 3, one)}, 3, 3, api.ErrSplit)
		well(t, []world.Event{e(0, 4, one), e(0, 3, other), e(1, 4, one), e(1, 3, other)}, 2)
	}
}

func TestHeld(t *testing.T) {
	for _, phase := range []int{api.Committed, api.Aborted} {
		faulty(t, []world.Event{e(0, 0, phase), e(0, 0, phase)}, 1, 1, api.ErrHeld)
		faulty(t, []world.Event{e(6, 5, phase), e(0, 5, phase), e(6, 4, phase), e(6, 5, phase)}, 7, 3, api.ErrHeld)
	}
	for sites := 1; sites <= api.MaxSites; sites++ {
		l := full(sites)
		for _, again := range l {
			faulty(t, append(slices.Clone(l), again), sites, len(l), api.ErrHeld)
		}
	}
}

// P3: of one event the first error that is so, in the order of the chapter.

func TestErrorsOfOneEvent(t *testing.T) {
	// Bound ahead of split, and of held.
	faulty(t, []world.Event{e(0, 0, 2), e(2, 0, 3)}, 2, 1, api.ErrBound)
	faulty(t, []world.Event{e(0, 0, 2), e(0, 0, 4)}, 2, 1, api.ErrBound)
	faulty(t, []world.Event{e(0, 0, 2), e(0, 0, 0)}, 2, 1, api.ErrBound)
	// Split ahead of held.
	faulty(t, []world.Event{e(0, 0, 2), e(0, 0, 3)}, 2, 1, api.ErrSplit)
	faulty(t, []world.Event{e(0, 0, 3), e(0, 0, 2)}, 2, 1, api.ErrSplit)
}

// The first event that is not well is told, whatever is told of those behind it.
func TestFirstEvent(t *testing.T) {
	bound, split, held := e(3, 1, 2), e(1, 0, 3), e(0, 0, 2)
	for _, c := range []struct {
		rest []world.Event
		want error
	}{
		{[]world.Event{bound, split, held}, api.ErrBound},
		{[]world.Event{split, bound, held}, api.ErrSplit},
		{[]world.Event{held, bound, split}, api.ErrHeld},
		{[]world.Event{held, split, bound}, api.ErrHeld},
		{[]world.Event{split, held, bound}, api.ErrSplit},
	} {
		faulty(t, append([]world.Event{e(0, 0, 2)}, c.rest...), 3, 1, c.want)
		faulty(t, append([]world.Event{e(0, 0, 2), e(2, 0, 2)}, c.rest...), 3, 2, c.want)
	}
}

func TestManyEvents(t *testing.T) {
	l := slices.Repeat(full(api.MaxSites), 20000)
	faulty(t, l, api.MaxSites, api.MaxSites*api.MaxDeals, api.ErrHeld)
}

// fault reads P90 anew: each event is held against each one ahead.
func fault(l []world.Event, sites int) (int, error) {
	for at, x := range l {
		ahead := func(is func(world.Event) bool) bool { return slices.ContainsFunc(l[:at], is) }
		switch {
		case x.Site < 0 || x.Site > sites-1 || x.Deal < 0 || x.Deal > 5 || x.Phase != 2 && x.Phase != 3:
			return at, api.ErrBound
		case ahead(func(y world.Event) bool { return y.Deal == x.Deal && y.Phase == 5-x.Phase }):
			return at, api.ErrSplit
		case ahead(func(y world.Event) bool { return y.Deal == x.Deal && y.Site == x.Site }):
			return at, api.ErrHeld
		}
	}
	return -1, nil
}

// lists of up to that many things of a pool, in each order and with each as often as one likes.
func lists[T any](pool []T, most int, have []T, do func(l []T)) {
	do(have)
	if len(have) == most {
		return
	}
	for _, x := range pool {
		lists(pool, most, append(slices.Clone(have), x), do)
	}
}

func TestAllShortLists(t *testing.T) {
	var pool []world.Event
	for site := range 3 {
		for _, deal := range []int{0, 5} {
			pool = append(pool, e(site, deal, api.Committed), e(site, deal, api.Aborted))
		}
	}
	pool = append(pool, e(-1, 0, 2), e(0, 6, 3), e(1, 5, 1), e(1, 0, 4))
	count := map[error]int{}
	lists(pool, 4, nil, func(l []world.Event) {
		for _, sites := range []int{2, 3} {
			at, want := fault(l, sites)
			count[want]++
			if want == nil {
				well(t, l, sites)
			} else {
				faulty(t, l, sites, at, want)
			}
		}
	})
	for _, want := range []error{nil, api.ErrBound, api.ErrSplit, api.ErrHeld} {
		if count[want] < 1000 {
			t.Errorf("%v: only %d lists", want, count[want])
		}
	}
}

// P90: outcomes.

func outcome(t *testing.T, l []world.Event, deal, want int) {
	t.Helper()
	if got := judge.Outcome(l, deal); got != want {
		t.Errorf("Outcome(%v, %d): %d, want %d", l, deal, got, want)
	}
}

func TestOutcome(t *testing.T) {
	l := []world.Event{e(0, 1, api.Committed), e(1, 2, api.Aborted), e(1, 1, api.Committed), e(6, 5, api.Aborted), e(2, 0, api.Committed)}
	for deal, want := range []int{api.Committed, api.Committed, api.Aborted, 0, 0, api.Aborted, 0} {
		outcome(t, l, deal, want)
		outcome(t, nil, deal, 0)
		outcome(t, []world.Event{}, deal, 0)
	}
	for _, no := range never {
		outcome(t, l, no, 0)
	}
}

// Events that are not well have outcomes, too: the first one's phase, as it stands.
func TestOutcomeOfTheFirst(t *testing.T) {
	outcome(t, []world.Event{e(0, 3, api.Aborted), e(1, 3, api.Committed)}, 3, api.Aborted)
	outcome(t, []world.Event{e(0, 3, api.Committed), e(0, 3, api.Aborted)}, 3, api.Committed)
	outcome(t, []world.Event{e(-1, 3, api.Aborted), e(0, 3, api.Committed)}, 3, api.Aborted)
	outcome(t, []world.Event{e(0, 3, 0), e(0, 3, api.Committed)}, 3, 0)
	for _, no := range never {
		outcome(t, []world.Event{e(0, 3, no), e(0, 3, api.Committed)}, 3, no)
		outcome(t, []world.Event{e(0, 3, api.Committed), e(0, no, api.Aborted)}, no, api.Aborted)
	}
}

// P91: do states agree?

func states(phases []int) []api.State {
	var l []api.State
	for at, phase := range phases {
		l = append(l, api.State{Phase: phase, Promise: 9 - at, Attempt: at % 3})
	}
	return l
}

func agree(t *testing.T, phases ...int) {
	t.Helper()
	if err := judge.Agree(states(phases)); err != nil {
		t.Errorf("Agree of %v: %v", phases, err)
	}
}

func split(t *testing.T, at int, phases ...int) {
	t.Helper()
	if err := judge.Agree(states(phases)); !isAt(err, at, api.ErrSplit) {
		t.Errorf("Agree of %v: %#v, want a split at %d", phases, err, at)
	}
}

func TestAgree(t *testing.T) {
	agree(t)
	agree(t, 0)
	agree(t, 0, 1, 4, 5, 4, 5, 1, 0)
	agree(t, 2)
	agree(t, 3, 3, 3)
	agree(t, 0, 2, 1, 5, 2)
	agree(t, 4, 3, 4, 1)
	split(t, 1, 2, 3)
	split(t, 1, 3, 2)
	split(t, 3, 0, 3, 4, 2, 3, 2)
	split(t, 5, 2, 2, 5, 2, 0, 3, 3, 2)
	if err := judge.Agree([]api.State{}); err != nil {
		t.Error(err)
	}
}

// What is no phase is no end.
func TestAgreeWithoutAPhase(t *testing.T) {
	for _, no := range append([]int{6, 7}, never...) {
		agree(t, no)
		agree(t, 2, no, 2)
		agree(t, no, 3, no)
		split(t, 3, no, 2, no, 3)
	}
}

func TestAgreeByPhasesAlone(t *testing.T) {
	for _, n := range []int{math.MinInt, -1, 0, 2, 3, api.MaxAttempt + 1, math.MaxInt} {
		one, other := api.State{Phase: api.Committed, Promise: n}, api.State{Phase: api.Aborted, Attempt: n}
		if err := judge.Agree([]api.State{one, {Promise: n}, other}); !isAt(err, 2, api.ErrSplit) {
			t.Errorf("%d: %#v", n, err)
		}
		if err := judge.Agree([]api.State{one, {Promise: n, Attempt: n}, {Phase: api.Committed, Attempt: n}}); err != nil {
			t.Errorf("%d: %v", n, err)
		}
	}
}

func TestAgreeOfAllShortLists(t *testing.T) {
	lists([]int{-1, 0, 1, 2, 3, 4, 5, 6}, 5, nil, func(l []int) {
		for at, phase := range l {
			if phase == 2 && slices.Contains(l[:at], 3) || phase == 3 && slices.Contains(l[:at], 2) {
				split(t, at, l...)
				return
			}
		}
		agree(t, l...)
	})
}

// P3 and P4: lists are only read, and nothing behind their length is.
func TestListsAreOnlyRead(t *testing.T) {
	l := []world.Event{e(0, 0, 2), e(1, 0, 2), e(0, 0, 3), e(0, 1, 2)}
	was := slices.Clone(l)
	well(t, l[:2], 2)
	well(t, l[:0], 2)
	outcome(t, l[:3], 1, 0)
	faulty(t, l, 2, 2, api.ErrSplit)
	if !slices.Equal(l, was) {
		t.Errorf("%v, was %v", l, was)
	}
	s := states([]int{2, 1, 3, 0})
	told := slices.Clone(s)
	if err := judge.Agree(s[:2]); err != nil {
		t.Error(err)
	}
	if err := judge.Agree(s); !isAt(err, 2, api.ErrSplit) {
		t.Error(err)
	}
	if !slices.Equal(s, told) {
		t.Errorf("%v, was %v", s, told)
	}
}

// P4: a fault is new memory each time.
func TestFaultsAreNew(t *testing.T) {
	events, ends := []world.Event{e(-1, 0, 2)}, states([]int{2, 3})
	for _, call := range []func() error{
		func() error { return judge.Check(events, 1) },
		func() error { return judge.Agree(ends) },
	} {
		one := call().(*api.Fault)
		was := *one
		*one = api.Fault{At: -5}
		if again := call().(*api.Fault); *again != was {
			t.Errorf("%v, was %v", *again, was)
		}
	}
}
