package world_test

import (
	"math"
	"reflect"
	"slices"
	"testing"

	"threefold/api"
	"threefold/world"
)

var odd = []int{math.MinInt, -1, math.MaxInt}

func made(t *testing.T, w ...int) *world.World {
	t.Helper()
	x, err := world.New(w)
	if err != nil || x == nil {
		t.Fatalf("New(%v): %v, %v", w, x, err)
	}
	return x
}

// done fails unless each of the calls was without an error.
func done(t *testing.T, errs ...error) {
	t.Helper()
	for i, err := range errs {
		if err != nil {
			t.Fatalf("call %d: %v", i, err)
		}
	}
}

func all(x *world.World) {
	for x.Deliver(0) == nil {
	}
}

func lose(x *world.World) {
	for x.Drop(0) == nil {
	}
}

// view is all that can be told of a world.
type view struct {
	States [][api.MaxDeals]api.State
	Leads  [][api.MaxDeals]string
	Up     []bool
	Flying []api.Frame
	Events []world.Event
}

func look(t *testing.T, x *world.World, sites int) view {
	t.Helper()
	v := view{States: make([][api.MaxDeals]api.State, sites), Leads: make([][api.MaxDeals]string, sites), Up: make([]bool, sites)}
	for s := range sites {
		var err error
		if v.Up[s], err = x.Is(s); err != nil {
			t.Fatalf("Is(%d): %v", s, err)
		}
		for d := range api.MaxDeals {
			if v.States[s][d], err = x.State(s, d); err != nil {
				t.Fatalf("State(%d, %d): %v", s, d, err)
			}
			if v.Leads[s][d], err = x.Lead(s, d); err != nil {
				t.Fatalf("Lead(%d, %d): %v", s, d, err)
			}
		}
	}
	v.Flying = append([]api.Frame{}, x.Flying()...)
	if n := x.InFlight(); n != len(v.Flying) {
		t.Fatalf("InFlight: %d, and these fly: %v", n, v.Flying)
	}
	v.Events = append([]world.Event{}, x.Events()...)
	return v
}

// try is a call that must fail.
type try struct {
	what string
	call func() error
	want error
}

// fail has the calls answer their errors, bare, and change nothing.
func fail(t *testing.T, x *world.World, sites int, l []try) {
	t.Helper()
	was := look(t, x, sites)
	for _, c := range l {
		if err := c.call(); err != c.want {
			t.Errorf("%s: %v, want %v", c.what, err, c.want)
		}
		if is := look(t, x, sites); !reflect.DeepEqual(is, was) {
			t.Errorf("%s: it is now %v, and was %v", c.what, is, was)
		}
	}
}

func flies(t *testing.T, x *world.World, want ...api.Frame) {
	t.Helper()
	if got := x.Flying(); !slices.Equal(got, want) {
		t.Errorf("on their way are\n%v, want\n%v", got, want)
	}
}

func happened(t *testing.T, x *world.World, want ...world.Event) {
	t.Helper()
	if got := x.Events(); !slices.Equal(got, want) {
		t.Errorf("events %v, want %v", got, want)
	}
}

func has(t *testing.T, x *world.World, s, deal int, want api.State) {
	t.Helper()
	if got, err := x.State(s, deal); got != want || err != nil {
		t.Errorf("State(%d, %d): %v, %v, want %v", s, deal, got, err, want)
	}
}

func phases(t *testing.T, x *world.World, deal int, want ...int) {
	t.Helper()
	for s, phase := range want {
		if got, err := x.State(s, deal); got.Phase != phase || err != nil {
			t.Errorf("State(%d, %d): %v, %v, want phase %d", s, deal, got, err, phase)
		}
	}
}

func leads(t *testing.T, x *world.World, s, deal int, want string) {
	t.Helper()
	if got, err := x.Lead(s, deal); got != want || err != nil {
		t.Errorf("Lead(%d, %d): %q, %v, want %q", s, deal, got, err, want)
	}
}

func up(t *testing.T, x *world.World, s int, want bool) {
	t.Helper()
	if got, err := x.Is(s); got != want || err != nil {
		t.Errorf("Is(%d): %v, %v, want %v", s, got, err, want)
	}
}

// toAll is a lead's frame to each of the sites.
func toAll(from, sites, deal, kind, attempt, phase int) []api.Frame {
	var l []api.Frame
	for to := range sites {
		l = append(l, api.Frame{From: from, To: to, Deal: deal, Kind: kind, Attempt: attempt, S: api.State{Phase: phase}})
	}
	return l
}

func elects(from, sites, deal, attempt int) []api.Frame {
	return slices.Delete(toAll(from, sites, deal, api.Elect, attempt, 0), from, from+1)
}

// committed has a deal committed everywhere, and nothing on its way.
func committed(t *testing.T, x *world.World, s, deal int) {
	t.Helper()
	done(t, x.Begin(s, deal))
	all(x)
	if st, err := x.State(s, deal); st.Phase != api.Committed || err != nil {
		t.Fatal(st, err)
	}
}

// voted has a deal voted for by the site itself alone, without leads or frames on their way.
func voted(t *testing.T, x *world.World, s, deal int) {
	t.Helper()
	done(t, x.Begin(s, deal), x.Deliver(s), x.Down(s), x.Up(s))
	lose(x)
	has(t, x, s, deal, api.State{Phase: api.Voted})
	leads(t, x, s, deal, "none")
}

// P80: a new world, and deals that begin.

func TestNew(t *testing.T) {
	w := []int{1000, 0, 1, 1, 1, 1, 1}
	for sites := 1; sites <= api.MaxSites; sites++ {
		x := made(t, w[:sites]...)
		v := look(t, x, sites)
		for s := range sites {
			if !v.Up[s] || v.States[s] != [api.MaxDeals]api.State{} {
				t.Errorf("site %d of %d: up %v, %v", s, sites, v.Up[s], v.States[s])
			}
			for d, l := range v.Leads[s] {
				if l != "none" {
					t.Errorf("site %d of %d, deal %d: a lead %q", s, sites, d, l)
				}
			}
		}
		if len(v.Flying) != 0 || len(v.Events) != 0 {
			t.Errorf("%d sites: %v, %v", sites, v.Flying, v.Events)
		}
		if _, err := x.Is(sites); err != api.ErrBound {
			t.Errorf("%d sites, and one more: %v", sites, err)
		}
	}
}

func TestNewLinksAreWhole(t *testing.T) {
	const sites = api.MaxSites
	for s := range sites {
		x := made(t, 1, 1, 1, 1, 1, 1, 1)
		committed(t, x, s, 2)
		phases(t, x, 2, slices.Repeat([]int{api.Committed}, sites)...)
	}
}

func TestNoWorlds(t *testing.T) {
	for _, c := range []struct {
		w    []int
		want error
	}{
		{nil, api.ErrShape},
		{[]int{}, api.ErrShape},
		{[]int{1, 1, 1, 1, 1, 1, 1, 1}, api.ErrShape},
		{[]int{1, 1, 1, 1, 1, 1, 1, -1}, api.ErrShape},
		{[]int{0, 0, 0, 0, 0, 0, 0, 0}, api.ErrShape},
		{[]int{-1}, api.ErrBound},
		{[]int{1, api.MaxWeight + 1}, api.ErrBound},
		{[]int{0, -1}, api.ErrBound},
		{[]int{0}, api.ErrNone},
		{[]int{0, 0, 0}, api.ErrNone},
	} {
		if x, err := world.New(c.w); x != nil || err != c.want {
			t.Errorf("New(%v): %v, %v, want %v", c.w, x, err, c.want)
		}
	}
}

func TestWeightsAreCopied(t *testing.T) {
	w := []int{1, 1, 1}
	x := made(t, w...)
	y, err := world.New(w)
	done(t, err)
	w[0], w[1], w[2] = 0, 1000, 0
	for _, x := range []*world.World{x, y} {
		done(t, x.Begin(0, 0))
		for range 6 {
			done(t, x.Deliver(0))
		}
		// Of the three Acks that of site 1 would now be enough alone.
		done(t, x.Deliver(0), x.Deliver(0), x.Deliver(0), x.Drop(0), x.Deliver(0))
		leads(t, x, 0, 0, "preparing")
		done(t, x.Deliver(0))
		leads(t, x, 0, 0, "done")
	}
}

func TestNineFramesOfThreeSites(t *testing.T) {
	const d = 3
	x := made(t, 1, 1, 1)
	done(t, x.Begin(0, d))
	flies(t, x, toAll(0, 3, d, api.Ask, 0, 0)...)
	leads(t, x, 0, d, "asking")
	leads(t, x, 1, d, "none")
	for s := range 3 {
		done(t, x.Deliver(0))
		has(t, x, s, d, api.State{Phase: api.Voted})
	}
	var votes, acks []api.Frame
	for s := range 3 {
		votes = append(votes, api.Frame{From: s, Deal: d, Kind: api.Vote, Yes: true, S: api.State{Phase: api.Voted}})
		acks = append(acks, api.Frame{From: s, Deal: d, Kind: api.Ack, Yes: true, S: api.State{Phase: api.PreCommit}})
	}
	flies(t, x, votes...)
	done(t, x.Deliver(0), x.Deliver(0))
	leads(t, x, 0, d, "asking")
	done(t, x.Deliver(0))
	leads(t, x, 0, d, "preparing")
	flies(t, x, toAll(0, 3, d, api.Pre, 0, api.PreCommit)...)
	done(t, x.Deliver(0), x.Deliver(0), x.Deliver(0))
	flies(t, x, acks...)
	phases(t, x, d, api.PreCommit, api.PreCommit, api.PreCommit)
	done(t, x.Deliver(0), x.Deliver(0))
	leads(t, x, 0, d, "done")
	flies(t, x, append(acks[2:], toAll(0, 3, d, api.Decide, 0, api.Committed)...)...)
	happened(t, x)
	all(x)
	for s := range 3 {
		has(t, x, s, d, api.State{Phase: api.Committed})
	}
	happened(t, x, world.Event{Site: 0, Deal: d, Phase: api.Committed}, world.Event{Site: 1, Deal: d, Phase: api.Committed}, world.Event{Site: 2, Deal: d, Phase: api.Committed})
}

func TestDealsAreApart(t *testing.T) {
	x := made(t, 1, 1, 1)
	var want []api.Frame
	for d := range api.MaxDeals {
		done(t, x.Begin(d%3, d))
		want = append(want, toAll(d%3, 3, d, api.Ask, 0, 0)...)
		flies(t, x, want...)
	}
	done(t, x.Refuse(1, 4))
	all(x)
	for d := range api.MaxDeals {
		end := api.Committed
		if d == 4 {
			end = api.Aborted
		}
		phases(t, x, d, end, end, end)
	}
}

func TestBeginIsRefused(t *testing.T) {
	const sites = 3
	x := made(t, 1, 1, 1)
	done(t, x.Begin(1, 5), x.Down(2))
	var l []try
	for _, s := range append(odd, sites, api.MaxSites) {
		l = append(l, try{"no site", func() error { return x.Begin(s, 0) }, api.ErrBound})
		l = append(l, try{"no site and no deal", func() error { return x.Begin(s, api.MaxDeals) }, api.ErrBound})
	}
	for _, d := range append(odd, api.MaxDeals) {
		l = append(l, try{"no deal", func() error { return x.Begin(0, d) }, api.ErrBound})
		l = append(l, try{"no deal, down", func() error { return x.Begin(2, d) }, api.ErrBound})
	}
	l = append(l,
		try{"down", func() error { return x.Begin(2, 0) }, api.ErrOff},
		try{"down, and held", func() error { return x.Begin(2, 5) }, api.ErrOff},
		try{"its own lead", func() error { return x.Begin(1, 5) }, api.ErrHeld},
		try{"another one's lead", func() error { return x.Begin(0, 5) }, api.ErrHeld})
	fail(t, x, sites, l)
	done(t, x.Begin(0, 4))
}

func TestBeginWhereAStateIs(t *testing.T) {
	x := made(t, 1, 1, 1)
	voted(t, x, 2, 1)
	for s := range 3 {
		fail(t, x, 3, []try{{"voted", func() error { return x.Begin(s, 1) }, api.ErrHeld}})
	}
	done(t, x.Down(2))
	for s := range 2 {
		fail(t, x, 3, []try{{"voted by one that is down", func() error { return x.Begin(s, 1) }, api.ErrHeld}})
	}
	done(t, x.Begin(0, 0))

	// A promise alone is a state, too.
	x = made(t, 1, 1, 1)
	voted(t, x, 0, 1)
	done(t, x.Tick(0), x.Deliver(0), x.Down(0))
	has(t, x, 1, 1, api.State{Promise: 3})
	fail(t, x, 3, []try{{"promised", func() error { return x.Begin(1, 1) }, api.ErrHeld}})
}

func TestBeginBehindALead(t *testing.T) {
	x := made(t, 1, 1)
	done(t, x.Begin(0, 2))
	lose(x)
	fail(t, x, 2, []try{{"a lead that asks, and nothing else", func() error { return x.Begin(1, 2) }, api.ErrHeld}})
	done(t, x.Down(0), x.Begin(1, 2))
	flies(t, x, toAll(1, 2, 2, api.Ask, 0, 0)...)
	done(t, x.Up(0))
	fail(t, x, 2, []try{{"the other one's lead", func() error { return x.Begin(0, 2) }, api.ErrHeld}})

}

func TestRefuse(t *testing.T) {
	const d = 4
	x := made(t, 1, 1, 1)
	done(t, x.Refuse(2, d), x.Refuse(2, d), x.Begin(1, d))
	all(x)
	for s := range 3 {
		has(t, x, s, d, api.State{Phase: api.Aborted})
	}
	happened(t, x, world.Event{Site: 2, Deal: d, Phase: api.Aborted}, world.Event{Site: 0, Deal: d, Phase: api.Aborted}, world.Event{Site: 1, Deal: d, Phase: api.Aborted})
	leads(t, x, 1, d, "done")
	// Opened anew it refuses no more.
	done(t, x.Refuse(0, 1), x.Down(0), x.Up(0))
	committed(t, x, 2, 1)
	phases(t, x, 1, api.Committed, api.Committed, api.Committed)
}

func TestRefuseIsRefused(t *testing.T) {
	x := made(t, 1, 1)
	done(t, x.Down(1))
	var l []try
	for _, s := range append(odd, 2, api.MaxSites) {
		l = append(l, try{"no site", func() error { return x.Refuse(s, 0) }, api.ErrBound})
	}
	for _, d := range append(odd, api.MaxDeals) {
		l = append(l, try{"no deal", func() error { return x.Refuse(0, d) }, api.ErrBound})
		l = append(l, try{"no deal, down", func() error { return x.Refuse(1, d) }, api.ErrBound})
	}
	l = append(l, try{"down", func() error { return x.Refuse(1, 3) }, api.ErrOff})
	fail(t, x, 2, l)
	done(t, x.Up(1))
	committed(t, x, 0, 3)
}

// P81: ticks.

func TestTickOfNothing(t *testing.T) {
	x := made(t, 1, 1)
	done(t, x.Begin(0, 0))
	was := look(t, x, 2)
	done(t, x.Tick(0), x.Tick(1))
	if is := look(t, x, 2); !reflect.DeepEqual(is, was) {
		t.Errorf("%v, and was %v", is, was)
	}
}

func TestTickTellsEnds(t *testing.T) {
	x := made(t, 1, 1, 1)
	committed(t, x, 0, 3)
	done(t, x.Refuse(0, 1), x.Begin(2, 1))
	all(x)
	// Deal 5 is aborted by a promise.
	voted(t, x, 1, 5)
	done(t, x.Tick(1))
	all(x)
	has(t, x, 1, 5, api.State{Phase: api.Aborted, Promise: 1, Attempt: 1})
	was := look(t, x, 3)
	for s := range 3 {
		lose(x)
		done(t, x.Tick(s))
		flies(t, x, slices.Concat(
			toAll(s, 3, 1, api.Decide, 0, api.Aborted),
			toAll(s, 3, 3, api.Decide, 0, api.Committed),
			toAll(s, 3, 5, api.Decide, 1, api.Aborted))...)
	}
	all(x)
	if is := look(t, x, 3); !reflect.DeepEqual(is, was) {
		t.Errorf("%v, and was %v", is, was)
	}
}

func TestTickKeepsALeadOfAnEnd(t *testing.T) {
	x := made(t, 1, 1)
	committed(t, x, 0, 0)
	done(t, x.Tick(0), x.Tick(1))
	leads(t, x, 0, 0, "done")
	leads(t, x, 1, 0, "none")
}

func TestTickTries(t *testing.T) {
	for sites := 2; sites <= api.MaxSites; sites++ {
		for s := range sites {
			x := made(t, slices.Repeat([]int{1}, sites)...)
			voted(t, x, s, 2)
			want := s
			if want == 0 {
				want = sites
			}
			for range 3 {
				done(t, x.Tick(s))
				flies(t, x, elects(s, sites, 2, want)...)
				has(t, x, s, 2, api.State{Phase: api.Voted, Promise: want})
				leads(t, x, s, 2, "asking")
				lose(x)
				want += sites
			}
		}
	}
}

func TestTickTakesTheLeadsPlace(t *testing.T) {
	x := made(t, 1, 1, 1)
	done(t, x.Begin(0, 0), x.Deliver(0), x.Deliver(0), x.Deliver(0))
	done(t, x.Tick(0))
	// The votes come too late for a lead that asks for promises.
	done(t, x.Deliver(0), x.Deliver(0), x.Deliver(0))
	leads(t, x, 0, 0, "asking")
	flies(t, x, elects(0, 3, 0, 3)...)
	all(x)
	phases(t, x, 0, api.Aborted, api.Aborted, api.Aborted)
}

func TestTickAboveItsOwnPromise(t *testing.T) {
	x := made(t, 1, 1, 1)
	voted(t, x, 2, 0)
	done(t, x.Tick(2), x.Deliver(0))
	lose(x)
	has(t, x, 0, 0, api.State{Promise: 2})
	// Who has only promised knows the deal, too.
	done(t, x.Tick(0))
	flies(t, x, elects(0, 3, 0, 3)...)
	lose(x)
	done(t, x.Tick(0))
	flies(t, x, elects(0, 3, 0, 6)...)
}

func TestTickAboveWhatTheLeadHasSeen(t *testing.T) {
	x := made(t, 1, 1, 1)
	done(t, x.Begin(0, 0), x.Deliver(0), x.Deliver(0), x.Deliver(0))
	lose(x)
	for range 4 {
		done(t, x.Tick(2))
		lose(x)
	}
	has(t, x, 2, 0, api.State{Phase: api.Voted, Promise: 11})
	// Site 1's lead is refused by site 2, and hears of its promise.
	done(t, x.Tick(1), x.Deliver(1), x.Deliver(1))
	leads(t, x, 1, 0, "refused")
	lose(x)
	done(t, x.Tick(1))
	flies(t, x, elects(1, 3, 0, 13)...)
	has(t, x, 1, 0, api.State{Phase: api.Voted, Promise: 13})
	leads(t, x, 1, 0, "asking")
	lose(x)
	// Opened anew it has forgotten what its lead had seen, not what it promised.
	done(t, x.Tick(0), x.Down(0), x.Up(0), x.Tick(0))
	flies(t, x, slices.Concat(elects(0, 3, 0, 3), elects(0, 3, 0, 6))...)
}

func TestTickOfOneThatIsEnough(t *testing.T) {
	x := made(t, 1, 3, 1)
	voted(t, x, 1, 4)
	done(t, x.Tick(1))
	flies(t, x, append(elects(1, 3, 4, 1), toAll(1, 3, 4, api.Pre, 1, api.PreAbort)...)...)
	leads(t, x, 1, 4, "preparing")
	has(t, x, 1, 4, api.State{Phase: api.Voted, Promise: 1})
	all(x)
	phases(t, x, 4, api.Aborted, api.Aborted, api.Aborted)

	// What it prepared itself is what it goes on with.
	x = made(t, 3, 1, 1)
	done(t, x.Begin(0, 4))
	for range 7 {
		done(t, x.Deliver(0))
	}
	lose(x)
	done(t, x.Tick(0))
	flies(t, x, append(elects(0, 3, 4, 3), toAll(0, 3, 4, api.Pre, 3, api.PreCommit)...)...)
}

func TestTickAlone(t *testing.T) {
	x := made(t, 5)
	done(t, x.Begin(0, 0), x.Deliver(0))
	lose(x)
	for attempt := 1; attempt < 4; attempt++ {
		done(t, x.Tick(0))
		flies(t, x, toAll(0, 1, 0, api.Pre, attempt, api.PreAbort)...)
		lose(x)
	}
	done(t, x.Tick(0))
	all(x)
	has(t, x, 0, 0, api.State{Phase: api.Aborted, Promise: 4, Attempt: 4})
}

func TestTickOfManyDeals(t *testing.T) {
	x := made(t, 1, 1)
	for _, d := range []int{5, 2, 0} {
		voted(t, x, 1, d)
	}
	done(t, x.Tick(1))
	flies(t, x, slices.Concat(elects(1, 2, 0, 1), elects(1, 2, 2, 1), elects(1, 2, 5, 1))...)
}

// TestTickBeyondTheAttempts goes up to the greatest attempt that there is: MaxAttempt itself is site 4's.
func TestTickBeyondTheAttempts(t *testing.T) {
	const sites = api.MaxSites
	for _, s := range []int{0, 4, 5} {
		x := made(t, 1, 1, 1, 1, 1, 1, 1)
		voted(t, x, s, 1)
		committed(t, x, s, 0)
		done(t, x.Begin(s, 2))
		greatest := api.MaxAttempt - (api.MaxAttempt-s)%sites
		for attempt := s; attempt <= greatest; attempt += sites {
			if attempt == 0 {
				continue
			}
			lose(x)
			done(t, x.Tick(s))
		}
		has(t, x, s, 1, api.State{Phase: api.Voted, Promise: greatest})
		lose(x)
		was := look(t, x, sites)
		done(t, x.Tick(s))
		flies(t, x, toAll(s, sites, 0, api.Decide, 0, api.Committed)...)
		lose(x)
		if is := look(t, x, sites); !reflect.DeepEqual(is, was) {
			t.Errorf("%v, and was %v", is, was)
		}
		leads(t, x, s, 1, "asking")
		leads(t, x, s, 2, "asking")
	}
}

func TestTickUnderWhichPowerFails(t *testing.T) {
	for cut := range 18 {
		x := made(t, 1, 1, 1)
		committed(t, x, 0, 0)
		committed(t, x, 0, 5)
		voted(t, x, 0, 3)
		voted(t, x, 0, 1)
		done(t, x.Begin(0, 4), x.Cut(0, cut), x.Tick(0))
		flies(t, x, append(toAll(0, 3, 4, api.Ask, 0, 0), toAll(0, 3, 0, api.Decide, 0, api.Committed)...)...)
		up(t, x, 0, false)
		has(t, x, 0, 1, api.State{Phase: api.Voted})
		has(t, x, 0, 3, api.State{Phase: api.Voted})
		for d := range api.MaxDeals {
			leads(t, x, 0, d, "none")
		}
		fail(t, x, 3, []try{{"down", func() error { return x.Tick(0) }, api.ErrOff}})
		done(t, x.Up(0))
		has(t, x, 0, 1, api.State{Phase: api.Voted})
	}
}

func TestTickUnderWhichPowerFailsLater(t *testing.T) {
	x := made(t, 1, 1, 1)
	for d := range 3 {
		voted(t, x, 1, d)
	}
	// 18 bytes put a promise: the second one has one too few.
	done(t, x.Cut(1, 35), x.Tick(1))
	flies(t, x, elects(1, 3, 0, 1)...)
	up(t, x, 1, false)
	has(t, x, 1, 0, api.State{Phase: api.Voted, Promise: 1})
	has(t, x, 1, 1, api.State{Phase: api.Voted})
	has(t, x, 1, 2, api.State{Phase: api.Voted})
	leads(t, x, 1, 0, "none")
	leads(t, x, 1, 1, "none")
}

func TestTickIsRefused(t *testing.T) {
	x := made(t, 1, 1, 1)
	voted(t, x, 1, 0)
	done(t, x.Down(1))
	var l []try
	for _, s := range append(odd, 3, api.MaxSites) {
		l = append(l, try{"no site", func() error { return x.Tick(s) }, api.ErrBound})
	}
	fail(t, x, 3, append(l, try{"down", func() error { return x.Tick(1) }, api.ErrOff}))
}

// P82: frames that go, are lost, or come twice.

func TestDeliverAnyOfThem(t *testing.T) {
	x := made(t, 1, 1, 1)
	done(t, x.Begin(2, 0))
	asks := toAll(2, 3, 0, api.Ask, 0, 0)
	vote := func(s int) api.Frame {
		return api.Frame{From: s, To: 2, Kind: api.Vote, Yes: true, S: api.State{Phase: api.Voted}}
	}
	done(t, x.Deliver(1))
	flies(t, x, asks[0], asks[2], vote(1))
	phases(t, x, 0, api.Nothing, api.Voted, api.Nothing)
	done(t, x.Deliver(1))
	flies(t, x, asks[0], vote(1), vote(2))
	done(t, x.Deliver(2))
	flies(t, x, asks[0], vote(1))
	done(t, x.Deliver(1))
	flies(t, x, asks[0])
	leads(t, x, 2, 0, "asking")
	done(t, x.Deliver(0), x.Deliver(0))
	leads(t, x, 2, 0, "preparing")
}

func TestDropAndTwice(t *testing.T) {
	x := made(t, 1, 1, 1)
	done(t, x.Begin(0, 0))
	l := x.Flying()
	done(t, x.Twice(1))
	flies(t, x, l[0], l[1], l[1], l[2])
	done(t, x.Twice(3))
	flies(t, x, l[0], l[1], l[1], l[2], l[2])
	done(t, x.Drop(0))
	flies(t, x, l[1], l[1], l[2], l[2])
	done(t, x.Drop(3))
	flies(t, x, l[1], l[1], l[2])
	done(t, x.Drop(1))
	flies(t, x, l[1], l[2])
	phases(t, x, 0, api.Nothing, api.Nothing, api.Nothing)
	done(t, x.Twice(0), x.Deliver(0))
	phases(t, x, 0, api.Nothing, api.Voted, api.Nothing)
	done(t, x.Deliver(0))
	flies(t, x, l[2], api.Frame{From: 1, Kind: api.Vote, Yes: true, S: api.State{Phase: api.Voted}}, api.Frame{From: 1, Kind: api.Vote, Yes: true, S: api.State{Phase: api.Voted}})
}

func TestNoSuchFrame(t *testing.T) {
	x := made(t, 1, 1)
	for flying := range 3 {
		if flying > 0 {
			done(t, x.Begin(0, flying))
			lose(x)
			done(t, x.Begin(1, 2+flying))
			for len(x.Flying()) > flying {
				done(t, x.Drop(0))
			}
		}
		var l []try
		for _, at := range append(odd, flying, flying+1) {
			l = append(l,
				try{"Deliver", func() error { return x.Deliver(at) }, api.ErrNone},
				try{"Drop", func() error { return x.Drop(at) }, api.ErrNone},
				try{"Twice", func() error { return x.Twice(at) }, api.ErrNone})
		}
		fail(t, x, 2, l)
	}
}

func TestBrokenLinkBothWays(t *testing.T) {
	for _, ends := range [][2]int{{0, 2}, {2, 0}} {
		x := made(t, 1, 1, 1)
		done(t, x.Begin(0, 0), x.Link(ends[0], ends[1], false))
		done(t, x.Deliver(2), x.Deliver(1))
		phases(t, x, 0, api.Nothing, api.Voted, api.Nothing)
		if n := len(x.Flying()); n != 2 {
			t.Errorf("%d on their way", n)
		}
		// What was sent ahead of the break is lost, too, and what comes behind it is not.
		y := made(t, 1, 1, 1)
		done(t, y.Begin(0, 0), y.Deliver(2), y.Link(ends[0], ends[1], false), y.Deliver(2), y.Link(ends[0], ends[1], true))
		phases(t, y, 0, api.Nothing, api.Nothing, api.Voted)
		all(y)
		leads(t, y, 0, 0, "asking")
		z := made(t, 1, 1, 1)
		done(t, z.Link(ends[0], ends[1], false), z.Link(ends[0], ends[1], false), z.Link(ends[1], ends[0], true), z.Begin(0, 0))
		all(z)
		phases(t, z, 0, api.Committed, api.Committed, api.Committed)
	}
}

func TestLinksAreApart(t *testing.T) {
	const sites = 4
	for a := range sites {
		for b := range sites {
			x := made(t, 1, 1, 1, 1)
			done(t, x.Link(a, b, false))
			for from := range sites {
				done(t, x.Begin(from, from))
				for to := range sites {
					done(t, x.Deliver(0))
					want := api.Voted
					if a != b && (from == a && to == b || from == b && to == a) {
						want = api.Nothing
					}
					if st, err := x.State(to, from); st.Phase != want || err != nil {
						t.Errorf("between %d and %d broken, from %d to %d: %v, %v", a, b, from, to, st, err)
					}
				}
				lose(x)
			}
		}
	}
}

func TestDownHearsNothing(t *testing.T) {
	x := made(t, 1, 1, 1)
	done(t, x.Begin(0, 0), x.Down(1), x.Deliver(1))
	if n := len(x.Flying()); n != 2 {
		t.Errorf("%d on their way", n)
	}
	done(t, x.Up(1))
	phases(t, x, 0, api.Nothing, api.Nothing, api.Nothing)
	// What one sent that is down now is heard.
	done(t, x.Down(0), x.Deliver(1))
	phases(t, x, 0, api.Nothing, api.Nothing, api.Voted)
}

func TestAnswersWithoutALead(t *testing.T) {
	x := made(t, 1, 1, 1)
	done(t, x.Begin(0, 0), x.Deliver(1), x.Down(0), x.Up(0))
	was := look(t, x, 3)
	done(t, x.Deliver(2))
	was.Flying = was.Flying[:2]
	if is := look(t, x, 3); !reflect.DeepEqual(is, was) {
		t.Errorf("%v, and was %v", is, was)
	}
	// A lead of another deal does not hear it.
	x = made(t, 1, 1)
	done(t, x.Begin(0, 0), x.Deliver(1), x.Down(0), x.Up(0), x.Begin(0, 1))
	done(t, x.Deliver(1))
	leads(t, x, 0, 1, "asking")
}

func TestTellsAndAcksGoToTheLead(t *testing.T) {
	x := made(t, 1, 1, 1)
	voted(t, x, 1, 3)
	done(t, x.Tick(1), x.Deliver(0))
	flies(t, x,
		api.Frame{From: 1, To: 2, Deal: 3, Kind: api.Elect, Attempt: 1},
		api.Frame{From: 0, To: 1, Deal: 3, Kind: api.Tell, Attempt: 1, Yes: true, S: api.State{Promise: 1}})
	done(t, x.Deliver(1))
	leads(t, x, 1, 3, "preparing")
	done(t, x.Drop(0))
	flies(t, x, toAll(1, 3, 3, api.Pre, 1, api.PreAbort)...)
	done(t, x.Deliver(2), x.Deliver(0), x.Drop(0))
	st := api.State{Phase: api.PreAbort, Promise: 1, Attempt: 1}
	flies(t, x,
		api.Frame{From: 2, To: 1, Deal: 3, Kind: api.Ack, Attempt: 1, Yes: true, S: st},
		api.Frame{From: 0, To: 1, Deal: 3, Kind: api.Ack, Attempt: 1, Yes: true, S: st})
	done(t, x.Deliver(0), x.Deliver(0))
	leads(t, x, 1, 3, "done")
	flies(t, x, toAll(1, 3, 3, api.Decide, 1, api.Aborted)...)
}

func TestDeliverUnderWhichPowerFails(t *testing.T) {
	for cut := range 18 {
		x := made(t, 1, 1, 1)
		done(t, x.Begin(1, 4), x.Begin(0, 2), x.Cut(1, cut), x.Deliver(1))
		up(t, x, 1, false)
		leads(t, x, 1, 4, "none")
		leads(t, x, 0, 2, "asking")
		has(t, x, 1, 4, api.State{})
		if n := len(x.Flying()); n != 5 {
			t.Errorf("cut %d: %d on their way", cut, n)
		}
		done(t, x.Up(1))
		has(t, x, 1, 4, api.State{})
		leads(t, x, 1, 4, "none")
	}
	// With just so many bytes it has voted, and is up.
	x := made(t, 1, 1, 1)
	done(t, x.Begin(1, 4), x.Cut(1, 18), x.Deliver(1))
	up(t, x, 1, true)
	has(t, x, 1, 4, api.State{Phase: api.Voted})
	leads(t, x, 1, 4, "asking")
	// It votes again by the bytes that it has; the next one to write it has not.
	done(t, x.Twice(2), x.Down(0), x.Up(0), x.Begin(0, 0), x.Deliver(5))
	up(t, x, 1, false)
	has(t, x, 1, 4, api.State{Phase: api.Voted})
}

func TestSaysAgainWithoutAByte(t *testing.T) {
	x := made(t, 1, 1, 1)
	done(t, x.Begin(0, 0), x.Twice(1), x.Deliver(1), x.Cut(1, 0), x.Deliver(1))
	up(t, x, 1, true)
	vote := api.Frame{From: 1, Kind: api.Vote, Yes: true, S: api.State{Phase: api.Voted}}
	asks := toAll(0, 3, 0, api.Ask, 0, 0)
	flies(t, x, asks[0], asks[2], vote, vote)
}

// P83: links, cuts, and power that fails and is there again.

func TestLinkIsRefused(t *testing.T) {
	const sites = 3
	x := made(t, 1, 1, 1)
	done(t, x.Begin(0, 0))
	var l []try
	for _, s := range append(odd, sites, api.MaxSites) {
		for _, whole := range []bool{false, true} {
			l = append(l,
				try{"no first site", func() error { return x.Link(s, 0, whole) }, api.ErrBound},
				try{"no second site", func() error { return x.Link(0, s, whole) }, api.ErrBound},
				try{"no site", func() error { return x.Link(s, s, whole) }, api.ErrBound})
		}
	}
	fail(t, x, sites, l)
	all(x)
	phases(t, x, 0, api.Committed, api.Committed, api.Committed)
}

func TestLinkOfOneThatIsDown(t *testing.T) {
	x := made(t, 1, 1)
	done(t, x.Down(1), x.Link(0, 1, false), x.Up(1), x.Begin(0, 0), x.Deliver(1))
	phases(t, x, 0, api.Nothing, api.Nothing)
}

func TestCutIsRefused(t *testing.T) {
	x := made(t, 1, 1)
	done(t, x.Down(1))
	var l []try
	for _, s := range append(odd, 2, api.MaxSites) {
		l = append(l, try{"no site", func() error { return x.Cut(s, 1) }, api.ErrBound})
	}
	for _, n := range []int{-1, math.MinInt} {
		l = append(l,
			try{"below 0", func() error { return x.Cut(0, n) }, api.ErrBound},
			try{"below 0, down", func() error { return x.Cut(1, n) }, api.ErrBound})
	}
	fail(t, x, 2, append(l, try{"down", func() error { return x.Cut(1, 0) }, api.ErrOff}))
	done(t, x.Up(1))
	committed(t, x, 0, 0)
	phases(t, x, 0, api.Committed, api.Committed)
}

func TestCutInThePlaceOfACut(t *testing.T) {
	x := made(t, 1, 1)
	done(t, x.Cut(1, 3), x.Cut(1, math.MaxInt), x.Cut(0, math.MaxInt), x.Cut(0, 0), x.Begin(0, 0))
	all(x)
	up(t, x, 0, false)
	up(t, x, 1, true)
	phases(t, x, 0, api.Nothing, api.Voted)
}

func TestUpTakesTheCutAway(t *testing.T) {
	x := made(t, 1, 1)
	done(t, x.Cut(1, 3), x.Down(1), x.Up(1))
	committed(t, x, 0, 0)
	up(t, x, 1, true)
}

func TestDownAndUp(t *testing.T) {
	x := made(t, 1, 1, 1)
	committed(t, x, 0, 0)
	voted(t, x, 1, 1)
	done(t, x.Begin(1, 2), x.Begin(1, 3), x.Tick(1))
	was := look(t, x, 3)
	done(t, x.Down(1))
	want := look(t, x, 3)
	want.Up[1] = true
	if leadless := [api.MaxDeals]string{"none", "none", "none", "none", "none", "none"}; want.Leads[1] != leadless {
		t.Error(want.Leads[1])
	}
	if !reflect.DeepEqual(want.States, was.States) || !reflect.DeepEqual(want.Flying, was.Flying) || !reflect.DeepEqual(want.Leads[0], was.Leads[0]) {
		t.Errorf("%v, and was %v", want, was)
	}
	done(t, x.Up(1))
	if is := look(t, x, 3); !reflect.DeepEqual(is, want) {
		t.Errorf("%v, want %v", is, want)
	}
}

func TestDownAndUpAreRefused(t *testing.T) {
	x := made(t, 1, 1)
	done(t, x.Begin(0, 0), x.Down(1))
	var l []try
	for _, s := range append(odd, 2, api.MaxSites) {
		l = append(l,
			try{"no site goes down", func() error { return x.Down(s) }, api.ErrBound},
			try{"no site comes up", func() error { return x.Up(s) }, api.ErrBound})
	}
	fail(t, x, 2, append(l,
		try{"down", func() error { return x.Down(1) }, api.ErrOff},
		try{"up", func() error { return x.Up(0) }, api.ErrHeld}))
}

// P84: what is told.

func TestNothingIsToldOfNone(t *testing.T) {
	x := made(t, 1, 1, 1)
	committed(t, x, 0, 0)
	done(t, x.Down(2))
	refused := func(s, d int) {
		if st, err := x.State(s, d); st != (api.State{}) || err != api.ErrBound {
			t.Errorf("State(%d, %d): %v, %v", s, d, st, err)
		}
		if l, err := x.Lead(s, d); l != "" || err != api.ErrBound {
			t.Errorf("Lead(%d, %d): %q, %v", s, d, l, err)
		}
	}
	for _, s := range append(odd, 3, api.MaxSites) {
		refused(s, 0)
		refused(s, -1)
		if is, err := x.Is(s); is || err != api.ErrBound {
			t.Errorf("Is(%d): %v, %v", s, is, err)
		}
	}
	for _, d := range append(odd, api.MaxDeals) {
		refused(0, d)
		refused(2, d)
	}
}

func TestLeadStates(t *testing.T) {
	x := made(t, 1, 1, 1)
	leads(t, x, 0, 0, "none")
	done(t, x.Begin(0, 0))
	leads(t, x, 0, 0, "asking")
	for range 6 {
		done(t, x.Deliver(0))
	}
	leads(t, x, 0, 0, "preparing")
	// Site 1 promises to site 2, and refuses to prepare.
	done(t, x.Tick(2), x.Deliver(4), x.Deliver(1))
	if f := x.Flying()[len(x.Flying())-1]; f.Kind != api.Ack || f.Yes {
		t.Fatal(f)
	}
	done(t, x.Deliver(len(x.Flying())-1))
	leads(t, x, 0, 0, "refused")
	leads(t, x, 2, 0, "asking")
	all(x)
	leads(t, x, 2, 0, "done")
}

func TestWhatIsToldIsNew(t *testing.T) {
	x := made(t, 1, 1)
	committed(t, x, 0, 0)
	done(t, x.Begin(1, 1))
	was := look(t, x, 2)
	for _, l := range [][]api.Frame{x.Flying(), append(x.Flying(), api.Frame{})} {
		for i := range l {
			l[i] = api.Frame{Kind: api.Decide}
		}
	}
	for _, l := range [][]world.Event{x.Events(), append(x.Events(), world.Event{})} {
		for i := range l {
			l[i] = world.Event{}
		}
	}
	if is := look(t, x, 2); !reflect.DeepEqual(is, was) {
		t.Errorf("%v, and was %v", is, was)
	}
	kept, events := x.Flying(), x.Events()
	wantKept, wantEvents := slices.Clone(kept), slices.Clone(events)
	done(t, x.Twice(0), x.Drop(2))
	all(x)
	if !slices.Equal(kept, wantKept) || !slices.Equal(events, wantEvents) {
		t.Errorf("what was told has changed: %v, %v", kept, events)
	}
}

func TestEventsInOrder(t *testing.T) {
	x := made(t, 1, 1, 1)
	done(t, x.Refuse(1, 2), x.Begin(0, 2), x.Begin(0, 4))
	// Site 1 votes no: it has decided at once.
	done(t, x.Deliver(1))
	want := []world.Event{{Site: 1, Deal: 2, Phase: api.Aborted}}
	happened(t, x, want...)
	for range 5 {
		done(t, x.Deliver(0))
	}
	happened(t, x, want...)
	all(x)
	want = append(want,
		world.Event{Site: 0, Deal: 2, Phase: api.Aborted}, world.Event{Site: 2, Deal: 2, Phase: api.Aborted},
		world.Event{Site: 0, Deal: 4, Phase: api.Committed}, world.Event{Site: 1, Deal: 4, Phase: api.Committed}, world.Event{Site: 2, Deal: 4, Phase: api.Committed})
	happened(t, x, want...)
	// What is decided already is no event again: told once more, or opened anew.
	for s := range 3 {
		done(t, x.Tick(s), x.Down(s), x.Up(s))
		all(x)
	}
	happened(t, x, want...)
}

func TestDecisionThatIsCut(t *testing.T) {
	for cut := range 25 {
		x := made(t, 1, 1)
		done(t, x.Begin(0, 0))
		for range 8 {
			done(t, x.Deliver(0))
		}
		// Site 1's Decide goes into a slot that has been written: 19 bytes.
		done(t, x.Cut(1, cut), x.Deliver(0))
		happened(t, x, world.Event{Site: 0, Phase: api.Committed})
		done(t, x.Deliver(0))
		want := []world.Event{{Site: 0, Phase: api.Committed}}
		if cut >= 19 {
			want = append(want, world.Event{Site: 1, Phase: api.Committed})
		}
		happened(t, x, want...)
		up(t, x, 1, cut >= 19)
		if cut < 19 {
			has(t, x, 1, 0, api.State{Phase: api.PreCommit})
			done(t, x.Up(1))
			has(t, x, 1, 0, api.State{Phase: api.PreCommit})
			happened(t, x, want...)
			done(t, x.Tick(0))
			all(x)
			want = append(want, world.Event{Site: 1, Phase: api.Committed})
		}
		happened(t, x, want...)
	}
}
