package play_test

import (
	"math"
	"slices"
	"testing"

	"threefold/api"
	"threefold/play"
	"threefold/world"
)

// rounds plays rounds, of which so many frames must be delivered.
func (x stage) rounds(t *testing.T, set, n, want int) {
	t.Helper()
	if got, err := play.Rounds(x.World, set, n); got != want || err != nil {
		t.Errorf("Rounds(%b, %d): %d, %v, want %d", set, n, got, err, want)
	}
}

// committed has a deal committed everywhere, and nothing on its way.
func (x stage) committed(t *testing.T, s, deal int) {
	t.Helper()
	done(t, x.Begin(s, deal))
	x.all()
	x.phases(t, deal, slices.Repeat([]int{api.Committed}, x.sites)...)
}

// voted has a deal voted for by the site itself alone, without leads or frames on their way.
func (x stage) voted(t *testing.T, s, deal int) {
	t.Helper()
	done(t, x.Begin(s, deal), x.Deliver(s), x.Down(s), x.Up(s))
	x.lose()
}

// P101: rounds.

func TestRoundsOutOfBounds(t *testing.T) {
	x := made(t, 1, 1, 1)
	x.voted(t, 1, 0)
	done(t, x.Begin(0, 3))
	was := x.look(t)
	for _, set := range []int{math.MinInt, math.MinInt + 7, -1 << 32, -128, -8, -1, 0, 1, 7, math.MaxInt} {
		for _, n := range []int{math.MinInt, -1 << 32, -11, -1, 0, 1, 10, 11, 12, 1<<32 + 1, math.MaxInt} {
			if set >= 0 && n >= 0 && n <= 10 {
				continue
			}
			if got, err := play.Rounds(x.World, set, n); got != 0 || err != api.ErrBound {
				t.Errorf("Rounds(%d, %d): %d, %v", set, n, got, err)
			}
		}
	}
	x.is(t, was)
}

func TestNoRounds(t *testing.T) {
	x := made(t, 1, 1, 1)
	x.voted(t, 1, 0)
	done(t, x.Begin(0, 3))
	was := x.look(t)
	for _, set := range []int{0, 1, 2, 7, 8, math.MaxInt} {
		x.rounds(t, set, 0, 0)
	}
	x.is(t, was)
}

func TestRoundsWithoutTicks(t *testing.T) {
	// All that is on its way goes, and all that comes of it, whoever ticks.
	for n := 1; n <= 10; n++ {
		x := made(t, 1, 1, 1)
		done(t, x.Begin(0, 0))
		x.rounds(t, 0, n, 15)
		x.phases(t, 0, api.Committed, api.Committed, api.Committed)
		x.rounds(t, 0, n, 0)
	}
}

func TestRoundsOfEnds(t *testing.T) {
	for n := range 11 {
		x := made(t, 1, 1, 1)
		x.committed(t, 2, 4)
		x.committed(t, 0, 1)
		was := x.look(t)
		// Each that ticks tells both ends to all.
		x.rounds(t, 0b010, n, 6*n)
		x.rounds(t, 0b101, n, 12*n)
		x.rounds(t, 0b111, n, 18*n)
		x.is(t, was)
	}
}

func TestRoundThatTries(t *testing.T) {
	x := made(t, 1, 1, 1)
	x.voted(t, 1, 3)
	// Two elects and two tells, three preparations and answers, three decisions.
	x.rounds(t, 0b010, 1, 13)
	for s := range 3 {
		if st, err := x.State(s, 3); st != (api.State{Phase: api.Aborted, Promise: 1, Attempt: 1}) || err != nil {
			t.Errorf("State(%d, 3): %v, %v", s, st, err)
		}
	}
	// Each of its three decisions is told to three then.
	x.rounds(t, 0b111, 1, 9)
}

// refused has a deal aborted by its first vote, that of a site alone; no other site knows of it.
func (x stage) refused(t *testing.T, s, deal int) {
	t.Helper()
	done(t, x.Refuse(s, deal), x.Begin(s, deal), x.Deliver(s), x.Down(s), x.Up(s))
	x.lose()
}

func TestAllTickInOrderAheadOfDeliveries(t *testing.T) {
	x := made(t, 1, 1, 1)
	x.refused(t, 0, 5)
	x.refused(t, 1, 1)
	// Had site 1 heard of deal 5 ahead of its tick, it would have told it, too.
	x.rounds(t, 0b011, 1, 6)
	want := []world.Event{{Site: 0, Deal: 5}, {Site: 1, Deal: 1}, {Site: 1, Deal: 5}, {Site: 2, Deal: 5}, {Site: 0, Deal: 1}, {Site: 2, Deal: 1}}
	for n := range want {
		want[n].Phase = api.Aborted
	}
	if l := x.Events(); !slices.Equal(l, want) {
		t.Errorf("%v, want %v", l, want)
	}
	// In a second round they tell what they heard in the first one.
	x.rounds(t, 0b011, 1, 12)
}

func TestTicksGoBehindWhatFlies(t *testing.T) {
	x, y := made(t, 1, 1, 1), made(t, 1, 1, 1)
	for _, x := range []stage{x, y} {
		x.voted(t, 2, 0)
		done(t, x.Begin(0, 3), x.Deliver(2), x.Deliver(0))
	}
	done(t, y.Tick(0), y.Tick(1), y.Tick(2))
	n := 0
	for ; y.Deliver(0) == nil; n++ {
	}
	x.rounds(t, 0b111, 1, n)
	x.is(t, y.look(t))
}

// A set may have sites that a world has not.
func TestRoundsOfSitesThatThereAreNot(t *testing.T) {
	for _, c := range [][2]int{{0b1000, 0}, {0b1011, 0b011}, {1 << 7, 0}, {1<<7 | 0b111, 0b111}, {1 << 62, 0}, {math.MaxInt - 7, 0}, {math.MaxInt, 0b111}} {
		x, y := made(t, 1, 1, 1), made(t, 1, 1, 1)
		for _, x := range []stage{x, y} {
			x.voted(t, 1, 0)
			x.committed(t, 0, 2)
		}
		n, err := play.Rounds(y.World, c[1], 2)
		done(t, err)
		x.rounds(t, c[0], 2, n)
		x.is(t, y.look(t))
	}
	x := seven(t)
	x.committed(t, 6, 0)
	x.rounds(t, 1<<6, 1, 7)
	x.rounds(t, 1<<7-1, 1, 49)
	x.rounds(t, math.MaxInt, 10, 490)
}

func TestRoundsWithSitesThatAreDown(t *testing.T) {
	x := made(t, 1, 1, 1)
	x.committed(t, 0, 0)
	done(t, x.Down(2))
	// What is delivered to one that is down, or over a broken link, is gone, and counts.
	x.rounds(t, 0b111, 1, 6)
	x.rounds(t, 0b100, 10, 0)
	done(t, x.Link(0, 1, false))
	x.rounds(t, 0b111, 2, 12)
	done(t, x.Begin(0, 1))
	x.rounds(t, 0, 1, 4)
	x.phases(t, 1, api.Voted, api.Nothing, api.Nothing)
	done(t, x.Down(0), x.Down(1))
	x.rounds(t, 0b111, 10, 0)
}

func TestRoundsInWhichPowerFails(t *testing.T) {
	// Under its own tick, ahead of all that it would send.
	x := made(t, 1, 1, 1)
	x.voted(t, 1, 0)
	done(t, x.Cut(1, 17))
	x.rounds(t, 0b111, 3, 0)
	if is, err := x.Is(1); is || err != nil {
		t.Errorf("%v, %v", is, err)
	}
	// Under a delivery of the first round: it ticks no more.
	x = made(t, 1, 1, 1)
	x.refused(t, 0, 5)
	x.refused(t, 1, 1)
	done(t, x.Cut(1, 0))
	x.rounds(t, 0b011, 1, 6)
	if is, err := x.Is(1); is || err != nil {
		t.Errorf("%v, %v", is, err)
	}
	x.rounds(t, 0b010, 1, 0)
	x.rounds(t, 0b011, 1, 6)
}

// TestRoundsOfManyFrames: there is no bound to what is delivered.
func TestRoundsOfManyFrames(t *testing.T) {
	x := seven(t)
	for d := range api.MaxDeals {
		x.committed(t, d, d)
	}
	var script []int
	for n := range api.MaxSteps {
		script = append(script, move(n%7, tick))
	}
	x.run(t, script, make([]int, api.MaxSteps)...)
	for n := range script {
		script[n] = move(n, drop)
	}
	x.run(t, script, make([]int, api.MaxSteps)...)
	x.rounds(t, 0b1000001, 1, 42*3000-3000+2*42)
}
