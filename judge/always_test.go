package judge_test

import (
	"math/rand"
	"testing"

	"threefold/api"
	"threefold/judge"
	"threefold/weights"
	"threefold/world"
)

// P92, by plays with fixed seeds: whatever befalls a world, at each step its events and its states are well.

type played struct {
	*world.World
	sites int
}

func newPlayed(t *testing.T, w []int) played {
	t.Helper()
	x, err := world.New(w)
	if err != nil {
		t.Fatal(err)
	}
	return played{x, len(w)}
}

// agreed is the states of a deal, which must agree.
func (p played) agreed(t *testing.T, deal int) []api.State {
	t.Helper()
	var l []api.State
	for s := range p.sites {
		st, err := p.State(s, deal)
		if err != nil {
			t.Fatal(err)
		}
		l = append(l, st)
	}
	if err := judge.Agree(l); err != nil {
		t.Fatalf("deal %d: %v: %v", deal, l, err)
	}
	return l
}

func (p played) well(t *testing.T) {
	t.Helper()
	l := p.Events()
	if err := judge.Check(l, p.sites); err != nil {
		t.Fatalf("%v: %v", l, err)
	}
	for deal := range api.MaxDeals {
		end := judge.Outcome(l, deal)
		for s, st := range p.agreed(t, deal) {
			if end != 0 && st.Phase == otherEnd(end) {
				t.Fatalf("deal %d: site %d: %v, the outcome is %d", deal, s, st, end)
			}
		}
	}
}

func otherEnd(end int) int {
	if end == api.Committed {
		return api.Aborted
	}
	return api.Committed
}

func anyWeights(r *rand.Rand) []int {
	w := make([]int, 1+r.Intn(api.MaxSites))
	for weights.Check(w) != nil {
		for s := range w {
			w[s] = r.Intn(4)
		}
	}
	return w
}

// step is one call, a delivery most of the time; those that answer an error change nothing.
func (p played) step(r *rand.Rand) {
	s, deal, flying := r.Intn(p.sites), r.Intn(2), len(p.Flying())
	switch r.Intn(60) {
	case 0:
		p.Drop(r.Intn(flying + 1))
	case 1, 2:
		p.Twice(r.Intn(flying + 1))
	case 3, 4, 5, 6:
		p.Begin(s, deal)
	case 7, 8, 9:
		p.Tick(s)
	case 10:
		p.Refuse(s, deal)
	case 11:
		p.Link(s, r.Intn(p.sites), false)
	case 12, 13, 14:
		p.Link(s, r.Intn(p.sites), true)
	case 15:
		p.Cut(s, r.Intn(60))
	case 16:
		p.Down(s)
	case 17, 18, 19:
		p.Up(s)
	default:
		// The first one half of the time, so that plays come to their ends.
		p.Deliver(r.Intn(flying+1) * r.Intn(2))
	}
}

// mend has all sites up and together, and brings what they know to its end.
func (p played) mend(t *testing.T) {
	t.Helper()
	for a := range p.sites {
		p.Down(a)
		p.Up(a)
		for b := range a {
			p.Link(a, b, true)
		}
	}
	for range 2 {
		for s := range p.sites {
			p.Tick(s)
		}
		for p.Deliver(0) == nil {
			p.well(t)
		}
	}
}

// ended is whether each site has come to the outcome of each deal, or, where there is none, knows nothing of it.
func (p played) ended(t *testing.T) {
	t.Helper()
	for deal := range api.MaxDeals {
		end := judge.Outcome(p.Events(), deal)
		for s, st := range p.agreed(t, deal) {
			if st.Phase != end {
				t.Fatalf("deal %d: site %d: %v, the outcome is %d", deal, s, st, end)
			}
		}
	}
}

func TestWhatAWorldDoesIsWell(t *testing.T) {
	count := [api.PreAbort + 1]int{}
	for seed := range int64(400) {
		r := rand.New(rand.NewSource(seed))
		p := newPlayed(t, anyWeights(r))
		for range 150 {
			p.step(r)
			p.well(t)
		}
		p.mend(t)
		p.ended(t)
		for deal := range api.MaxDeals {
			count[judge.Outcome(p.Events(), deal)]++
		}
	}
	if count[api.Committed] < 100 || count[api.Aborted] < 100 {
		t.Errorf("these plays show little: %v", count)
	}
}

// What no world does is told: each event of a play is made a wrong one in turn.
func TestWhatNoWorldDoesIsNot(t *testing.T) {
	for refuses := range 2 {
		p := newPlayed(t, []int{2, 1, 1, 0})
		if refuses == 1 {
			p.Refuse(2, 3)
		}
		p.Begin(1, 3)
		for p.Deliver(0) == nil {
			p.well(t)
		}
		l := p.Events()
		if len(l) != p.sites {
			t.Fatal(l)
		}
		for at := range l {
			was := l[at]
			if at > 0 {
				l[at].Phase = otherEnd(was.Phase)
				faulty(t, l, p.sites, at, api.ErrSplit)
				l[at] = l[0]
				faulty(t, l, p.sites, at, api.ErrHeld)
			}
			for _, wrong := range []world.Event{e(p.sites, was.Deal, was.Phase), e(was.Site, api.MaxDeals, was.Phase), e(was.Site, was.Deal, api.PreCommit)} {
				l[at] = wrong
				faulty(t, l, p.sites, at, api.ErrBound)
			}
			l[at] = was
		}
		well(t, l, p.sites)
	}
}
