package lead_test

import (
	"math"
	"math/rand"
	"slices"
	"testing"

	"threefold/api"
	"threefold/lead"
	"threefold/plate"
	"threefold/site"
	"threefold/table"
)

const (
	here = 1 // the lead that is tried
	deal = 2
)

var odd = []int{math.MinInt, -1, math.MaxInt}

// tried is a lead: a Begin lead for attempt 0, else a Try lead.
func tried(t *testing.T, w []int, attempt int) *lead.Lead {
	t.Helper()
	return of(t, here, w, attempt)
}

func of(t *testing.T, id int, w []int, attempt int) *lead.Lead {
	t.Helper()
	l, err := lead.Begin(id, deal, w)
	if attempt > 0 {
		l, err = lead.Try(id, deal, w, attempt)
	}
	if err != nil || l == nil {
		t.Fatalf("lead %d of %v, attempt %d: %v, %v", id, w, attempt, l, err)
	}
	return l
}

// from is a frame to the lead that is tried.
func from(site, kind, attempt int, yes bool, s api.State) api.Frame {
	return api.Frame{From: site, To: here, Deal: deal, Kind: kind, Attempt: attempt, Yes: yes, S: s}
}

func toAll(id, sites, kind, attempt, phase int) []api.Frame {
	var out []api.Frame
	for i := range sites {
		out = append(out, api.Frame{From: id, To: i, Deal: deal, Kind: kind, Attempt: attempt, S: api.State{Phase: phase}})
	}
	return out
}

func is(t *testing.T, what string, l *lead.Lead, state string, seen int) {
	t.Helper()
	if l.State() != state || l.Seen() != seen {
		t.Errorf("%s: %q, seen %d, want %q, %d", what, l.State(), l.Seen(), state, seen)
	}
}

func hears(t *testing.T, l *lead.Lead, f api.Frame, want []api.Frame) {
	t.Helper()
	if got := l.Hear(f); !slices.Equal(got, want) {
		t.Errorf("Hear(%v): %v, want %v", f, got, want)
	}
}

// asked is what a lead of that attempt waits for first.
func asked(attempt int) int {
	if attempt == 0 {
		return api.Vote
	}
	return api.Tell
}

// preparing is a lead that has just prepared PreCommit, by all the sites' answers or by enough of them; seen is 0.
func preparing(t *testing.T, w []int, attempt int) *lead.Lead {
	t.Helper()
	l := tried(t, w, attempt)
	for i := range w {
		l.Hear(from(i, asked(attempt), attempt, true, api.State{Phase: api.PreCommit}))
	}
	is(t, "prepared", l, "preparing", 0)
	return l
}

// P70: leads, and how they start.

func TestStart(t *testing.T) {
	w := []int{3, 0, 1, 1, 1000, 1, 1}
	for n := 1; n <= len(w); n++ {
		for id := range n {
			l := of(t, id, w[:n], 0)
			is(t, "Begin", l, "asking", 0)
			if got, want := l.Start(), toAll(id, n, api.Ask, 0, 0); !slices.Equal(got, want) {
				t.Errorf("Start of Begin lead %d of %d: %v, want %v", id, n, got, want)
			}
			for _, attempt := range []int{1, 5, api.MaxAttempt} {
				l := of(t, id, w[:n], attempt)
				is(t, "Try", l, "asking", 0)
				if got, want := l.Start(), slices.Delete(toAll(id, n, api.Elect, attempt, 0), id, id+1); !slices.Equal(got, want) {
					t.Errorf("Start of Try lead %d of %d: %v, want %v", id, n, got, want)
				}
			}
		}
	}
}

func TestDeals(t *testing.T) {
	for d := range api.MaxDeals {
		b, err := lead.Begin(0, d, []int{1, 1})
		if err != nil {
			t.Fatal(d, err)
		}
		y, err := lead.Try(0, d, []int{1, 1}, 4)
		if err != nil {
			t.Fatal(d, err)
		}
		if l := b.Start(); len(l) != 2 || l[0].Deal != d || l[1].Deal != d {
			t.Errorf("deal %d: %v", d, l)
		}
		if l := y.Start(); len(l) != 1 || l[0].Deal != d {
			t.Errorf("deal %d: %v", d, l)
		}
		got := b.Hear(api.Frame{From: 1, To: 0, Deal: d, Kind: api.Vote})
		if len(got) != 2 || got[0].Deal != d || got[1].Deal != d {
			t.Errorf("deal %d: %v", d, got)
		}
	}
}

func TestStartChangesNothing(t *testing.T) {
	for _, attempt := range []int{0, 7} {
		l := tried(t, []int{1, 1, 1}, attempt)
		want := l.Start()
		for i := range 3 {
			l.Hear(from(i, asked(attempt), attempt, true, api.State{}))
			if got := l.Start(); !slices.Equal(got, want) {
				t.Errorf("Start again: %v, want %v", got, want)
			}
		}
		is(t, "started again", l, "preparing", 0)
		l.Hear(from(0, api.Ack, attempt, false, api.State{Promise: 9}))
		if got := l.Start(); !slices.Equal(got, want) {
			t.Errorf("Start of a refused lead: %v, want %v", got, want)
		}
		is(t, "refused", l, "refused", 9)
	}
}

func TestNoLeads(t *testing.T) {
	good := []int{1, 1, 1}
	for i, c := range []struct {
		id, deal int
		w        []int
		want     error
	}{
		{0, 0, nil, api.ErrShape},
		{0, 0, []int{}, api.ErrShape},
		{0, 0, make([]int, api.MaxSites+1), api.ErrShape},
		{-1, -1, nil, api.ErrShape},
		{0, 0, []int{1, -1}, api.ErrBound},
		{0, 0, []int{1, api.MaxWeight + 1}, api.ErrBound},
		{0, 0, []int{0, 0}, api.ErrNone},
		{9, 9, []int{0}, api.ErrNone},
		{-1, 0, good, api.ErrBound},
		{3, 0, good, api.ErrBound},
		{6, 0, good, api.ErrBound},
		{math.MinInt, 0, good, api.ErrBound},
		{math.MaxInt, 0, good, api.ErrBound},
		{0, -1, good, api.ErrBound},
		{0, api.MaxDeals, good, api.ErrBound},
		{0, math.MinInt, good, api.ErrBound},
		{0, math.MaxInt, good, api.ErrBound},
	} {
		if l, err := lead.Begin(c.id, c.deal, c.w); l != nil || err != c.want {
			t.Errorf("%d: Begin: %v, %v, want %v", i, l, err, c.want)
		}
		for _, attempt := range []int{0, 1, api.MaxAttempt + 1} {
			if l, err := lead.Try(c.id, c.deal, c.w, attempt); l != nil || err != c.want {
				t.Errorf("%d: Try of %d: %v, %v, want %v", i, attempt, l, err, c.want)
			}
		}
	}
	for _, attempt := range append(odd, 0, api.MaxAttempt+1) {
		if l, err := lead.Try(0, 0, good, attempt); l != nil || err != api.ErrBound {
			t.Errorf("Try of %d: %v, %v", attempt, l, err)
		}
	}
}

// P4: the weights are only read, and not kept.
func TestWeightsAreCopied(t *testing.T) {
	memory := []int{1, 1, 1, 77, 77}
	w := memory[:3]
	l := tried(t, w, 5)
	if !slices.Equal(memory, []int{1, 1, 1, 77, 77}) {
		t.Error("written into:", memory)
	}
	for i := range memory {
		memory[i] = 1000
	}
	memory[2] = -1
	hears(t, l, from(0, api.Tell, 5, true, api.State{}), nil)
	hears(t, l, from(2, api.Tell, 5, true, api.State{}), toAll(here, 3, api.Pre, 5, api.PreAbort))
	if memory[0] != 1000 || memory[2] != -1 {
		t.Error("written into:", memory)
	}
}

// P4: what is answered is nobody else's.
func TestAnswersAreNew(t *testing.T) {
	l := tried(t, []int{1, 1, 1}, 5)
	one, two := l.Start(), l.Start()
	clear(one)
	if want := slices.Delete(toAll(here, 3, api.Elect, 5, 0), here, here+1); !slices.Equal(two, want) || !slices.Equal(l.Start(), want) {
		t.Error("changed by another answer:", two, l.Start())
	}
	l.Hear(from(0, api.Tell, 5, true, api.State{Phase: api.PreCommit}))
	clear(l.Hear(from(1, api.Tell, 5, true, api.State{})))
	l.Hear(from(0, api.Ack, 5, true, api.State{}))
	hears(t, l, from(1, api.Ack, 5, true, api.State{}), toAll(here, 3, api.Decide, 5, api.Committed))
}

// P71: votes.

func TestAllVoteYes(t *testing.T) {
	for _, w := range [][]int{{1, 1}, {5, 1, 1}, {0, 0, 0, 1}, {0, 1000}, {1, 1, 1, 1, 1, 1, 1}} {
		for first := range w {
			l := tried(t, w, 0)
			for k := range len(w) - 1 {
				hears(t, l, from((first+k)%len(w), api.Vote, 0, true, api.State{Phase: api.Voted, Promise: 8}), nil)
				is(t, "not yet all", l, "asking", 0)
			}
			last := (first + len(w) - 1) % len(w)
			hears(t, l, from(last, api.Vote, 0, true, api.State{}), toAll(here, len(w), api.Pre, 0, api.PreCommit))
			is(t, "all", l, "preparing", 0)
		}
	}
}

func TestOneVotesNo(t *testing.T) {
	w := []int{4, 0, 1, 0}
	for no := range w {
		for ahead := range len(w) {
			l := tried(t, w, 0)
			for k := 1; k <= ahead; k++ {
				hears(t, l, from((no+k)%len(w), api.Vote, 0, true, api.State{}), nil)
			}
			hears(t, l, from(no, api.Vote, 0, false, api.State{Phase: api.Voted, Promise: 8}), toAll(here, len(w), api.Decide, 0, api.Aborted))
			is(t, "no", l, "done", 0)
			for i := range w {
				hears(t, l, from(i, api.Vote, 0, true, api.State{}), nil)
				hears(t, l, from(i, api.Ack, 0, true, api.State{Promise: 3}), nil)
			}
			is(t, "behind the end", l, "done", 0)
		}
	}
}

// A vote's state says nothing: its Yes alone counts.
func TestVotesByYesAlone(t *testing.T) {
	for phase := range 6 {
		l := tried(t, []int{1, 1}, 0)
		s := api.State{Phase: phase, Promise: 4, Attempt: 4}
		hears(t, l, from(0, api.Vote, 0, true, s), nil)
		hears(t, l, from(1, api.Vote, 0, true, s), toAll(here, 2, api.Pre, 0, api.PreCommit))
		l = tried(t, []int{1, 1}, 0)
		hears(t, l, from(0, api.Vote, 0, false, s), toAll(here, 2, api.Decide, 0, api.Aborted))
	}
}

// P71: what was told.

func TestToldStatesAreChosenFrom(t *testing.T) {
	abort3, commit0, commit3 := api.State{Phase: api.PreAbort, Attempt: 3}, api.State{Phase: api.PreCommit}, api.State{Phase: api.PreCommit, Attempt: 3}
	voted := api.State{Phase: api.Voted, Promise: 6, Attempt: 6}
	for i, c := range []struct {
		l     []api.State
		kind  int
		phase int
	}{
		{[]api.State{{}, {}, {}}, api.Pre, api.PreAbort},
		{[]api.State{voted, voted, voted}, api.Pre, api.PreAbort},
		{[]api.State{voted, abort3, commit0}, api.Pre, api.PreAbort},
		{[]api.State{commit0, voted, {}}, api.Pre, api.PreCommit},
		{[]api.State{abort3, commit3, voted}, api.Pre, api.PreCommit},
		{[]api.State{abort3, commit3, {Phase: api.Aborted}}, api.Decide, api.Aborted},
		{[]api.State{{Phase: api.Committed}, abort3, abort3}, api.Decide, api.Committed},
		{[]api.State{{Phase: api.Aborted, Attempt: 9}, abort3, {Phase: api.Committed}}, api.Decide, api.Committed},
		{[]api.State{{Phase: 77}, {Phase: -1}, {Phase: math.MinInt, Attempt: math.MaxInt}}, api.Pre, api.PreAbort},
	} {
		for first := range 3 {
			l := tried(t, []int{2, 2, 2, 1, 0}, 5)
			hears(t, l, from(first, api.Tell, 5, true, c.l[first]), nil)
			hears(t, l, from(3, api.Tell, 5, true, c.l[(first+1)%3]), nil)
			is(t, "not yet enough", l, "asking", max(c.l[first].Promise, c.l[(first+1)%3].Promise))
			hears(t, l, from((first+1)%3, api.Tell, 5, true, c.l[(first+2)%3]), toAll(here, 5, c.kind, 5, c.phase))
			state := map[int]string{api.Pre: "preparing", api.Decide: "done"}[c.kind]
			if l.State() != state {
				t.Errorf("%d: %q, want %q", i, l.State(), state)
			}
		}
	}
}

// Just half is not enough; a site without weight tells, too, and is told of.
func TestEnoughByWeight(t *testing.T) {
	w := []int{2, 1, 1, 0}
	l := tried(t, w, 9)
	hears(t, l, from(1, api.Tell, 9, true, api.State{}), nil)
	hears(t, l, from(2, api.Tell, 9, true, api.State{}), nil)
	hears(t, l, from(3, api.Tell, 9, true, api.State{Phase: api.Committed}), nil)
	is(t, "half", l, "asking", 0)
	hears(t, l, from(0, api.Tell, 9, true, api.State{}), toAll(here, 4, api.Decide, 9, api.Committed))
	l = tried(t, w, 9)
	hears(t, l, from(3, api.Tell, 9, true, api.State{Phase: api.PreCommit}), nil)
	hears(t, l, from(0, api.Tell, 9, true, api.State{Phase: api.Voted}), nil)
	hears(t, l, from(2, api.Tell, 9, true, api.State{Phase: api.Voted}), toAll(here, 4, api.Pre, 9, api.PreCommit))
	hears(t, l, from(0, api.Ack, 9, true, api.State{}), nil)
	hears(t, l, from(3, api.Ack, 9, true, api.State{}), nil)
	is(t, "half", l, "preparing", 0)
	hears(t, l, from(1, api.Ack, 9, true, api.State{}), toAll(here, 4, api.Decide, 9, api.Committed))
	is(t, "enough", l, "done", 0)
}

// The end is that of those who told in time; who tells later is not asked.
func TestWhoTellsLater(t *testing.T) {
	l := tried(t, []int{1, 1, 1}, 5)
	l.Hear(from(2, api.Tell, 5, true, api.State{}))
	hears(t, l, from(0, api.Tell, 5, true, api.State{}), toAll(here, 3, api.Pre, 5, api.PreAbort))
	hears(t, l, from(1, api.Tell, 5, true, api.State{Phase: api.Committed, Promise: 7}), nil)
	hears(t, l, from(1, api.Tell, 5, false, api.State{Promise: 7}), nil)
	is(t, "too late", l, "preparing", 0)
	l.Hear(from(2, api.Ack, 5, true, api.State{}))
	hears(t, l, from(0, api.Ack, 5, true, api.State{}), toAll(here, 3, api.Decide, 5, api.Aborted))
}

func TestTellWithoutYes(t *testing.T) {
	for phase := range 6 {
		for no := range 3 {
			l := tried(t, []int{1, 1, 1}, 5)
			if phase > 2 {
				hears(t, l, from((no+1)%3, api.Tell, 5, true, api.State{Promise: 5}), nil)
			}
			hears(t, l, from(no, api.Tell, 5, false, api.State{Phase: phase, Promise: 6}), nil)
			is(t, "refused", l, "refused", 6)
			for i := range 3 {
				hears(t, l, from(i, api.Tell, 5, true, api.State{Phase: api.Committed, Promise: 8}), nil)
				hears(t, l, from(i, api.Ack, 5, true, api.State{Promise: 8}), nil)
			}
			is(t, "refused for good", l, "refused", 6)
		}
	}
}

// P71: preparations.

func TestAcks(t *testing.T) {
	for _, attempt := range []int{0, 1, api.MaxAttempt} {
		for first := range 5 {
			l := preparing(t, []int{1, 1, 1, 1, 1}, attempt)
			hears(t, l, from(first, api.Ack, attempt, true, api.State{Promise: 2}), nil)
			hears(t, l, from((first+2)%5, api.Ack, attempt, true, api.State{Phase: api.Aborted}), nil)
			is(t, "two of five", l, "preparing", 2)
			hears(t, l, from((first+1)%5, api.Ack, attempt, true, api.State{Phase: api.PreAbort}), toAll(here, 5, api.Decide, attempt, api.Committed))
			is(t, "three of five", l, "done", 2)
			hears(t, l, from((first+3)%5, api.Ack, attempt, true, api.State{Promise: 9}), nil)
			hears(t, l, from((first+4)%5, api.Ack, attempt, false, api.State{Promise: 9}), nil)
			is(t, "behind the end", l, "done", 2)
		}
	}
}

func TestAckWithoutYes(t *testing.T) {
	for _, attempt := range []int{0, 5} {
		for no := range 3 {
			for ahead := range 2 {
				l := preparing(t, []int{1, 1, 1}, attempt)
				if ahead > 0 {
					hears(t, l, from((no+1)%3, api.Ack, attempt, true, api.State{Promise: 5}), nil)
				}
				hears(t, l, from(no, api.Ack, attempt, false, api.State{Phase: api.Committed, Promise: 8}), nil)
				is(t, "refused", l, "refused", 8)
				for i := range 3 {
					hears(t, l, from(i, api.Ack, attempt, true, api.State{Promise: 9}), nil)
				}
				is(t, "refused for good", l, "refused", 8)
			}
		}
	}
}

func TestAlone(t *testing.T) {
	to := func(kind, attempt int, s api.State) api.Frame {
		return api.Frame{Deal: deal, Kind: kind, Attempt: attempt, Yes: true, S: s}
	}
	l := of(t, 0, []int{1}, 0)
	hears(t, l, to(api.Vote, 0, api.State{}), toAll(0, 1, api.Pre, 0, api.PreCommit))
	hears(t, l, to(api.Ack, 0, api.State{}), toAll(0, 1, api.Decide, 0, api.Committed))
	l = of(t, 0, []int{1}, 1)
	if got := l.Start(); len(got) > 0 {
		t.Error("asks itself:", got)
	}
	hears(t, l, to(api.Tell, 1, api.State{Promise: 1}), toAll(0, 1, api.Pre, 1, api.PreAbort))
	hears(t, l, to(api.Ack, 1, api.State{Promise: 1}), toAll(0, 1, api.Decide, 1, api.Aborted))
	is(t, "alone", l, "done", 1)
}

// P71: promises that were seen.

func TestSeen(t *testing.T) {
	l := tried(t, []int{1, 1, 1, 1, 1}, 5)
	for i, c := range []struct {
		site, kind, promise int
		yes                 bool
		seen                int
	}{
		{0, api.Vote, 50, true, 0},
		{0, api.Ack, 50, true, 0},
		{0, api.Tell, 6, true, 6},
		{0, api.Tell, 50, true, 6},
		{0, api.Tell, 50, false, 6},
		{1, api.Tell, 4, true, 6},
		{2, api.Tell, 7, true, 7},
		{3, api.Tell, 50, true, 7},
		{3, api.Tell, 50, false, 7},
		{0, api.Ack, 6, true, 7},
		{3, api.Ack, api.MaxAttempt, true, api.MaxAttempt},
		{3, api.Ack, math.MaxInt, true, api.MaxAttempt},
		{1, api.Ack, math.MaxInt, false, math.MaxInt},
	} {
		l.Hear(from(c.site, c.kind, 5, c.yes, api.State{Promise: c.promise}))
		if l.Seen() != c.seen {
			t.Fatalf("%d: seen %d, want %d", i, l.Seen(), c.seen)
		}
	}
	is(t, "at last", l, "refused", math.MaxInt)
}

// 0 stands for none alone: numbers that no site promises are held against each other all the same.
func TestSeenBelowNothing(t *testing.T) {
	l := tried(t, []int{1, 1, 1}, 5)
	l.Hear(from(0, api.Tell, 5, true, api.State{Promise: math.MinInt}))
	is(t, "the least", l, "asking", math.MinInt)
	l.Hear(from(1, api.Tell, 5, true, api.State{Promise: -3}))
	is(t, "more", l, "preparing", -3)
	l.Hear(from(0, api.Ack, 5, true, api.State{Promise: -4}))
	is(t, "less", l, "preparing", -3)
	l.Hear(from(1, api.Ack, 5, false, api.State{}))
	is(t, "0", l, "refused", 0)
}

// P71: what is passed over. Each of these would end the lead, were it heard.

func wrong(f api.Frame, sites int, kinds []int) []api.Frame {
	var out []api.Frame
	change := func(c func(f *api.Frame)) {
		g := f
		c(&g)
		out = append(out, g)
	}
	for _, n := range append(odd, 0, 2, 3, sites, 63, 64, 65) {
		if n < 0 || n >= sites {
			change(func(f *api.Frame) { f.From = n })
		}
		if n != f.To {
			change(func(f *api.Frame) { f.To = n })
		}
		if n != f.Deal {
			change(func(f *api.Frame) { f.Deal = n })
		}
		if n != f.Attempt {
			change(func(f *api.Frame) { f.Attempt = n })
		}
	}
	change(func(f *api.Frame) { f.Attempt++ })
	change(func(f *api.Frame) { f.Attempt-- })
	for _, kind := range append(kinds, append(odd, 0, api.Decide+1)...) {
		change(func(f *api.Frame) { f.Kind = kind })
	}
	return out
}

func TestPassedOver(t *testing.T) {
	all := []int{api.Ask, api.Vote, api.Elect, api.Tell, api.Pre, api.Ack, api.Decide}
	no := api.State{Phase: api.Committed, Promise: 50, Attempt: 50}
	for _, w := range [][]int{{1, 1, 1}, {1, 1, 1, 1, 1, 1, 1}} {
		for _, attempt := range []int{0, 5} {
			for _, kind := range []int{asked(attempt), api.Ack} {
				l, state := tried(t, w, attempt), "asking"
				if kind == api.Ack {
					l, state = preparing(t, w, attempt), "preparing"
				}
				hears(t, l, from(0, kind, attempt, true, api.State{}), nil)
				hears(t, l, from(0, kind, attempt, false, no), nil)
				others := slices.DeleteFunc(slices.Clone(all), func(k int) bool { return k == kind })
				for _, f := range wrong(from(2, kind, attempt, false, no), len(w), others) {
					hears(t, l, f, nil)
					f.Yes = true
					hears(t, l, f, nil)
				}
				is(t, "passed over", l, state, 0)
				l.Hear(from(2, kind, attempt, false, no))
				if l.State() == state {
					t.Errorf("the right frame is passed over: kind %d, attempt %d", kind, attempt)
				}
			}
		}
	}
}

func TestEndedLeadHearsNothing(t *testing.T) {
	for _, attempt := range []int{0, 5} {
		for _, yes := range []bool{false, true} {
			l, state := preparing(t, []int{1, 1, 1}, attempt), "refused"
			l.Hear(from(0, api.Ack, attempt, yes, api.State{}))
			if yes {
				l.Hear(from(1, api.Ack, attempt, true, api.State{}))
				state = "done"
			}
			for site := range 3 {
				for kind := -1; kind <= api.Decide+1; kind++ {
					hears(t, l, from(site, kind, attempt, yes, api.State{Phase: api.Committed, Promise: 9}), nil)
					hears(t, l, from(site, kind, attempt, !yes, api.State{Phase: api.Aborted, Promise: 9}), nil)
				}
			}
			is(t, "ended", l, state, 0)
		}
	}
}

// P71: the rules again, each time from the first frame on.

type model struct {
	attempt int
	w       []int
}

func (m model) outweighs(answers map[int]api.Frame) bool {
	more := 0
	for i, n := range m.w {
		if _, is := answers[i]; is {
			more += n
		} else {
			more -= n
		}
	}
	return more > 0
}

// first are the first answers of a kind, one of each site; at tells the frame that had a No, or with which they were as wanted (or -1).
func (m model) first(heard []api.Frame, kind int, wanted func(answers map[int]api.Frame) bool) (answers map[int]api.Frame, at int) {
	answers = map[int]api.Frame{}
	for i, f := range heard {
		_, again := answers[f.From]
		if f.To != here || f.Deal != deal || f.Attempt != m.attempt || f.Kind != kind || f.From < 0 || f.From >= len(m.w) || again {
			continue
		}
		answers[f.From] = f
		if !f.Yes || wanted(answers) {
			return answers, i
		}
	}
	return answers, -1
}

func states(answers map[int]api.Frame) []api.State {
	var out []api.State
	for _, f := range answers {
		out = append(out, f.S)
	}
	return out
}

// promises of answers; greatest of none is 0.
func promises(answers map[int]api.Frame) []int {
	var out []int
	for _, f := range answers {
		out = append(out, f.S.Promise)
	}
	return out
}

func greatest(l []int) int {
	if len(l) == 0 {
		return 0
	}
	return slices.Max(l)
}

// play tells the state, what was seen, and what the last frame made it send.
func (m model) play(heard []api.Frame) (state string, seen int, sent []api.Frame) {
	last := func(at int, kind, phase int) []api.Frame {
		if at != len(heard)-1 {
			return nil
		}
		return toAll(here, len(m.w), kind, m.attempt, phase)
	}
	all := func(answers map[int]api.Frame) bool { return len(answers) == len(m.w) }
	phase, final := api.PreCommit, false
	answers, at := m.first(heard, api.Vote, all)
	var told []int
	if m.attempt > 0 {
		answers, at = m.first(heard, api.Tell, m.outweighs)
		told = promises(answers)
		seen = greatest(told)
		phase, final = table.Choose(states(answers))
	}
	switch {
	case at < 0:
		return "asking", seen, nil
	case !heard[at].Yes && m.attempt > 0:
		return "refused", seen, nil
	case !heard[at].Yes:
		return "done", seen, last(at, api.Decide, api.Aborted)
	case final:
		return "done", seen, last(at, api.Decide, phase)
	}
	acks, end := m.first(heard[at+1:], api.Ack, m.outweighs)
	seen = greatest(append(told, promises(acks)...))
	switch {
	case end < 0:
		return "preparing", seen, last(at, api.Pre, phase)
	case !heard[at+1+end].Yes:
		return "refused", seen, nil
	}
	return "done", seen, last(at+1+end, api.Decide, table.After(phase))
}

// anyFrame is right more often than not.
func anyFrame(r *rand.Rand, sites, attempt int) api.Frame {
	f := from(r.Intn(sites), asked(attempt), attempt, r.Intn(12) > 0, api.State{Phase: []int{0, 1, 4, 5, 4, 5, 4, 5, 2, 3}[r.Intn(10)], Promise: r.Intn(14) - 9, Attempt: r.Intn(12)})
	if r.Intn(2) == 0 {
		f.Kind = api.Ack
	}
	switch r.Intn(12) {
	case 0:
		f.From = r.Intn(12) - 2
	case 1:
		f.To = r.Intn(4)
	case 2:
		f.Deal = r.Intn(4)
	case 3:
		f.Kind = r.Intn(9)
	case 4:
		f.Attempt = r.Intn(8)
	}
	return f
}

func anyWeights(r *rand.Rand) []int {
	w := make([]int, 2+r.Intn(api.MaxSites-1))
	for i := range w {
		w[i] = r.Intn(4)
	}
	w[r.Intn(len(w))]++
	return w
}

// P72, by what a lead heard: it decides what Enough hold, or what is final somewhere, or Aborted where a vote was no.
func grounds(m model, heard []api.Frame, prepared, decided int) bool {
	no, final := false, false
	acks := map[int]api.Frame{}
	for _, f := range heard {
		no = no || f.Kind == api.Vote && !f.Yes
		final = final || f.Kind == api.Tell && f.Yes && f.S.Phase == decided
		if f.Kind == api.Ack && f.Yes && f.To == here && f.Deal == deal && f.Attempt == m.attempt {
			acks[f.From] = f
		}
	}
	held := prepared > 0 && decided == table.After(prepared) && m.outweighs(acks)
	return held || m.attempt > 0 && final || m.attempt == 0 && no && decided == api.Aborted
}

func TestAgainstTheModel(t *testing.T) {
	ends := map[string]int{}
	for seed := range int64(6000) {
		r := rand.New(rand.NewSource(seed))
		m := model{w: anyWeights(r), attempt: 5 * r.Intn(2)}
		l := tried(t, m.w, m.attempt)
		var heard []api.Frame
		prepared, end := 0, ""
		for range 40 {
			f := anyFrame(r, len(m.w), m.attempt)
			heard = append(heard, f)
			got := l.Hear(f)
			state, seen, sent := m.play(heard)
			if l.State() != state || l.Seen() != seen || !slices.Equal(got, sent) {
				t.Fatalf("seed %d, %v, attempt %d: %v: %q, %d, %v, want %q, %d, %v", seed, m.w, m.attempt, heard, l.State(), l.Seen(), got, state, seen, sent)
			}
			if len(got) > 0 && got[0].Kind == api.Pre {
				prepared = got[0].S.Phase
			}
			if len(got) > 0 && got[0].Kind == api.Decide {
				end = " by " + []string{"", "", "commit", "abort"}[got[0].S.Phase]
				if !grounds(m, heard, prepared, got[0].S.Phase) {
					t.Fatalf("seed %d: decided %v without a ground: %v", seed, got, heard)
				}
			}
		}
		ends[begun(m.attempt)+l.State()+end]++
	}
	for _, end := range []string{"begin refused", "begin done by commit", "begin done by abort", "try refused", "try done by commit", "try done by abort"} {
		if ends[end] < 20 {
			t.Errorf("%q was reached %d times only: %v", end, ends[end], ends)
		}
	}
}

func begun(attempt int) string {
	if attempt == 0 {
		return "begin "
	}
	return "try "
}

// P72, among sites: frames are lost, doubled and out of order, leads take over from each other.

type town struct {
	t      *testing.T
	w      []int
	sites  []*site.Site
	leads  []*lead.Lead
	began  []bool // is a lead a Begin lead?
	flying []api.Frame
	held   map[api.State]map[int]api.Frame // who has held a phase of an attempt (its promise aside)
	ends   map[int]int                     // what leads decided
}

func newTown(t *testing.T, w []int) *town {
	t.Helper()
	v := &town{t: t, w: w, leads: make([]*lead.Lead, len(w)), began: make([]bool, len(w)), held: map[api.State]map[int]api.Frame{}, ends: map[int]int{}}
	for id := range w {
		p, err := plate.New(api.MaxBytes)
		if err != nil {
			t.Fatal(err)
		}
		s, err := site.New(id, p)
		if err != nil {
			t.Fatal(err)
		}
		v.sites = append(v.sites, s)
	}
	return v
}

func (v *town) put(id, attempt int) {
	v.leads[id], v.began[id] = of(v.t, id, v.w, attempt), attempt == 0
	if attempt > 0 {
		v.site(api.Frame{From: id, To: id, Deal: deal, Kind: api.Elect, Attempt: attempt})
	}
	v.flying = append(v.flying, v.leads[id].Start()...)
}

func (v *town) site(f api.Frame) {
	sent, err := v.sites[f.To].Hear(f)
	if err != nil {
		v.t.Fatal(err)
	}
	st, _ := v.sites[f.To].State(deal)
	if st.Phase == api.PreCommit || st.Phase == api.PreAbort {
		key := api.State{Phase: st.Phase, Attempt: st.Attempt}
		if v.held[key] == nil {
			v.held[key] = map[int]api.Frame{}
		}
		v.held[key][f.To] = f
	}
	v.flying = append(v.flying, sent...)
}

func (v *town) lead(f api.Frame) {
	l := v.leads[f.To]
	if l == nil {
		return
	}
	was := l.State()
	sent := l.Hear(f)
	if len(sent) > 0 && sent[0].Kind == api.Decide {
		v.decided(sent[0], was)
	}
	v.flying = append(v.flying, sent...)
}

func (v *town) somewhere(phase int) bool {
	return slices.ContainsFunc(v.sites, func(s *site.Site) bool {
		st, _ := s.State(deal)
		return st.Phase == phase
	})
}

func (v *town) decided(f api.Frame, was string) {
	end := f.S.Phase
	v.ends[end]++
	if len(v.ends) > 1 {
		v.t.Fatalf("leads decided otherwise: %v", v.ends)
	}
	pre := map[int]int{api.Committed: api.PreCommit, api.Aborted: api.PreAbort}[end]
	switch {
	case was == "preparing":
		if !(model{w: v.w}).outweighs(v.held[api.State{Phase: pre, Attempt: f.Attempt}]) {
			v.t.Fatalf("%v: too few have held it", f)
		}
	case v.began[f.From] && end != api.Aborted || !v.somewhere(end):
		v.t.Fatalf("%v: final nowhere", f)
	}
}

// attempt is a new one that no other site takes.
func (v *town) attempt(id int) int {
	st, _ := v.sites[id].State(deal)
	n := st.Promise + 1
	if v.leads[id] != nil {
		n = max(n, v.leads[id].Seen()+1)
	}
	for n%len(v.w) != id {
		n++
	}
	return n
}

func (v *town) step(r *rand.Rand) {
	if len(v.flying) == 0 || r.Intn(25) == 0 {
		id := r.Intn(len(v.w))
		v.put(id, v.attempt(id))
		return
	}
	at := 0
	if r.Intn(2) == 0 {
		at = r.Intn(len(v.flying))
	}
	f := v.flying[at]
	if r.Intn(10) > 0 {
		v.flying = slices.Delete(v.flying, at, at+1)
	}
	if r.Intn(12) == 0 {
		return
	}
	if f.Kind == api.Vote || f.Kind == api.Tell || f.Kind == api.Ack {
		v.lead(f)
	} else {
		v.site(f)
	}
}

func TestDecidesOnGroundsAlone(t *testing.T) {
	ends := map[int]int{}
	for seed := range int64(1500) {
		r := rand.New(rand.NewSource(seed))
		v := newTown(t, anyWeights(r))
		if r.Intn(3) == 0 {
			v.sites[r.Intn(len(v.w))].Refuse(deal)
		}
		v.put(r.Intn(len(v.w)), 0)
		for range 250 {
			v.step(r)
		}
		for end, times := range v.ends {
			ends[end] += times
		}
	}
	if ends[api.Committed] < 200 || ends[api.Aborted] < 200 {
		t.Errorf("too few ends: %v", ends)
	}
}
