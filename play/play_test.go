package play_test

import (
	"math"
	"reflect"
	"slices"
	"testing"

	"threefold/api"
	"threefold/play"
	"threefold/world"
)

// stage is a world with the number of its sites.
type stage struct {
	*world.World
	sites int
}

func made(t *testing.T, w ...int) stage {
	t.Helper()
	x, err := world.New(w)
	if err != nil {
		t.Fatalf("New(%v): %v", w, err)
	}
	return stage{x, len(w)}
}

// seven is a world of as many sites as there may be.
func seven(t *testing.T) stage {
	t.Helper()
	return made(t, 1, 1, 1, 1, 1, 1, 1)
}

// done fails unless each of the calls was without an error.
func done(t *testing.T, errs ...error) {
	t.Helper()
	for i, err := range errs {
		if err != nil {
			t.Fatalf("call %d: %v", i, err)
		}
	}
}

// view is all that can be told of a world.
type view struct {
	States [api.MaxSites][api.MaxDeals]api.State
	Leads  [api.MaxSites][api.MaxDeals]string
	Up     [api.MaxSites]bool
	Flying []api.Frame
	Events []world.Event
}

func (x stage) look(t *testing.T) view {
	t.Helper()
	v := view{Flying: append([]api.Frame{}, x.Flying()...), Events: append([]world.Event{}, x.Events()...)}
	for s := range x.sites {
		var err error
		v.Up[s], err = x.Is(s)
		done(t, err)
		for d := range api.MaxDeals {
			v.States[s][d], err = x.State(s, d)
			done(t, err)
			v.Leads[s][d], err = x.Lead(s, d)
			done(t, err)
		}
	}
	return v
}

func (x stage) is(t *testing.T, want view) {
	t.Helper()
	if is := x.look(t); !reflect.DeepEqual(is, want) {
		t.Fatalf("it is\n%v, want\n%v", is, want)
	}
}

func (x stage) phases(t *testing.T, deal int, want ...int) {
	t.Helper()
	for s, phase := range want {
		if got, err := x.State(s, deal); got.Phase != phase || err != nil {
			t.Errorf("State(%d, %d): %v, %v, want phase %d", s, deal, got, err, phase)
		}
	}
}

func (x stage) flies(t *testing.T, want ...api.Frame) {
	t.Helper()
	if got := x.Flying(); !slices.Equal(got, want) {
		t.Errorf("on their way are\n%v, want\n%v", got, want)
	}
}

func (x stage) all() {
	for x.Deliver(0) == nil {
	}
}

func (x stage) lose() {
	for x.Drop(0) == nil {
	}
}

// run plays a script, which must have these answers.
func (x stage) run(t *testing.T, script []int, want ...int) {
	t.Helper()
	if got := play.Run(x.World, script); !slices.Equal(got, want) {
		t.Errorf("Run(%v): %v, want %v", script, got, want)
	}
}

// Moves, by their numbers.
const (
	deliver = 0
	drop    = 7
	twice   = 8
	begin   = 9
	tick    = 10
	refuse  = 11
	link    = 12
	cut     = 13
	down    = 14
	up      = 15
)

func move(q, kind int) int { return 16*q + kind }

// at is the q that has this site, and this deal or other site: the lap-th one that has.
func at(s, d, lap int) int { return s + 7*d + 42*lap }

var laps = []int{0, 1, 2, 5, 1000, 1<<53 + 1}

// eachPair does something for each q of some laps, with its site, and its deal or other site.
func eachPair(do func(q, s, d int)) {
	for _, lap := range laps {
		for s := range api.MaxSites {
			for d := range api.MaxDeals {
				do(at(s, d, lap), s, d)
			}
		}
	}
}

// P100: plays, move by move.

func TestOneDeal(t *testing.T) {
	x := made(t, 1, 1, 1)
	// Three asks, votes, preparations, answers, decisions.
	x.run(t, []int{9, 0, 1, 2, 3, 4, 5, 6, 0, 0, 0, 0, 0}, make([]int, 13)...)
	x.phases(t, 0, api.PreCommit, api.PreCommit, api.PreCommit)
	x.run(t, []int{0, 0, 0, 0, 0}, 0, 0, 0, 4, 4)
	x.phases(t, 0, api.Committed, api.Committed, api.Committed)
	// Refused by site 1: the deal of number 2.
	x.run(t, []int{move(1+14, refuse), move(2+14, begin), 0, 0, 0, 0, 0, 0, 0, 0, 0, 0}, 0, 0, 0, 0, 0, 0, 0, 0, 0, 0, 0, 4)
	x.phases(t, 2, api.Aborted, api.Aborted, api.Aborted)
	// What is decided is told by a tick.
	x.run(t, []int{move(0, tick), move(5, drop), move(5, drop)}, 0, 0, 0)
	if n := len(x.Flying()); n != 4 {
		t.Errorf("%d on their way", n)
	}
}

func TestNothingToPlay(t *testing.T) {
	x := made(t, 1, 1, 1)
	done(t, x.Begin(0, 0))
	was := x.look(t)
	x.run(t, nil)
	x.run(t, []int{})
	x.is(t, was)
}

func TestBelowZero(t *testing.T) {
	x := made(t, 1, 1, 1)
	done(t, x.Begin(0, 0), x.Down(2))
	was := x.look(t)
	for n := range 2000 {
		x.run(t, []int{-1 - n}, -1)
	}
	x.run(t, []int{math.MinInt, math.MinInt + 1, -1 << 32, -1<<32 + 9, -16, -1}, -1, -1, -1, -1, -1, -1)
	x.is(t, was)
	// It stops nothing.
	x.run(t, []int{-1, 0, -9, move(2, up), math.MinInt}, -1, 0, -1, 0, -1)
	x.phases(t, 0, api.Voted, api.Nothing, api.Nothing)
}

func TestDeliver(t *testing.T) {
	for kind := range drop {
		for _, q := range []int{0, 1, 2, 3, 4, 5, 6, 7, 100, 101, 1 << 32, math.MaxInt / 16} {
			x, y := made(t, 1, 1, 1), made(t, 1, 1, 1)
			done(t, x.Begin(1, 4), y.Begin(1, 4), y.Deliver(q%3))
			x.run(t, []int{move(q, kind)}, 0)
			x.is(t, y.look(t))
			want := []int{0, 0, 0}
			want[q%3] = api.Voted
			x.phases(t, 4, want...)
		}
	}
}

func TestDropAndTwice(t *testing.T) {
	for _, q := range []int{0, 1, 2, 3, 4, 5, 6, 7, 100, 101, 1 << 32, math.MaxInt / 16} {
		x := made(t, 1, 1, 1)
		done(t, x.Begin(1, 4))
		was := x.look(t)
		f := was.Flying
		x.run(t, []int{move(q, twice)}, 0)
		x.flies(t, [][]api.Frame{{f[0], f[0], f[1], f[2]}, {f[0], f[1], f[1], f[2]}, {f[0], f[1], f[2], f[2]}}[q%3]...)
		x.run(t, []int{move(q%3, drop)}, 0)
		x.flies(t, f...)
		x.run(t, []int{move(q, drop)}, 0)
		x.flies(t, slices.Delete(slices.Clone(f), q%3, q%3+1)...)
		was.Flying = x.Flying()
		x.is(t, was)
	}
}

func TestWhereNoneFly(t *testing.T) {
	x := made(t, 1, 1, 1)
	was := x.look(t)
	for kind := range begin {
		for _, q := range []int{0, 1, 2, 7, 42, 1 << 40, math.MaxInt / 16} {
			x.run(t, []int{move(q, kind)}, 4)
		}
	}
	x.is(t, was)
}

func TestBegin(t *testing.T) {
	eachPair(func(q, s, d int) {
		x := seven(t)
		x.run(t, []int{move(q, begin), move(q, begin)}, 0, 8)
		if l, err := x.Lead(s, d); l != "asking" || err != nil {
			t.Errorf("%d: Lead(%d, %d): %q, %v", q, s, d, l, err)
		}
		for to, f := range x.Flying() {
			if f != (api.Frame{From: s, To: to, Deal: d, Kind: api.Ask}) {
				t.Errorf("%d: %v", q, f)
			}
		}
		done(t, x.Down(s))
		x.run(t, []int{move(q, begin)}, 6)
	})
}

func TestTick(t *testing.T) {
	eachPair(func(q, s, d int) {
		x, y := seven(t), seven(t)
		for _, x := range []stage{x, y} {
			done(t, x.Begin((s+1)%7, d))
			x.all()
		}
		done(t, y.Tick(s))
		x.run(t, []int{move(q, tick)}, 0)
		x.is(t, y.look(t))
		if l := x.Flying(); len(l) != 7 || l[0].From != s {
			t.Errorf("%d: %v", q, l)
		}
		done(t, x.Down(s))
		x.run(t, []int{move(q, tick)}, 6)
	})
}

func TestRefuse(t *testing.T) {
	eachPair(func(q, s, d int) {
		x := seven(t)
		x.run(t, []int{move(q, refuse)}, 0)
		for deal := range api.MaxDeals {
			done(t, x.Begin(0, deal))
		}
		for range 7 * api.MaxDeals {
			done(t, x.Deliver(0))
		}
		if l := x.Events(); !slices.Equal(l, []world.Event{{Site: s, Deal: d, Phase: api.Aborted}}) {
			t.Errorf("%d: %v", q, l)
		}
		done(t, x.Down(s))
		x.run(t, []int{move(q, refuse)}, 6)
	})
}

// TestLink: of an even q the link is whole then, of an odd one it is broken. As q has its site's and the other one's parity together, each link can be only the one or the other.
func TestLink(t *testing.T) {
	eachPair(func(q, s, other int) {
		for _, was := range []bool{false, true} {
			x, y := seven(t), seven(t)
			done(t, x.Link(s, other, was), y.Link(s, other, q%2 == 0))
			x.run(t, []int{move(q, link)}, 0)
			heard := api.Voted
			if q%2 == 1 {
				heard = api.Nothing
			}
			done(t, x.Begin(s, 3), x.Deliver(other))
			if st, err := x.State(other, 3); st.Phase != heard || err != nil {
				t.Errorf("%d: from %d to %d: %v, %v", q, s, other, st, err)
			}
			done(t, y.Begin(s, 3), y.Deliver(other))
			for _, x := range []stage{x, y} {
				x.all()
				for from := range 7 {
					done(t, x.Tick(from))
				}
			}
			x.is(t, y.look(t))
		}
	})
}

// TestCut has a site vote by the bytes that are left: a vote on a new deal is 18 of them.
func TestCut(t *testing.T) {
	for q := range 2 * 7 * 40 {
		x := seven(t)
		x.run(t, []int{move(q, cut)}, 0)
		s := q % 7
		var want [3]int
		for d := range want {
			done(t, x.Begin((s+1)%7, d), x.Deliver(s))
			if d < q%40/18 {
				want[d] = api.Voted
			}
			x.lose()
		}
		for d, phase := range want {
			if st, err := x.State(s, d); st.Phase != phase || err != nil {
				t.Errorf("%d: State(%d, %d): %v, %v", q, s, d, st, err)
			}
		}
		if is, err := x.Is(s); is || err != nil {
			t.Errorf("%d: Is(%d): %v, %v", q, s, is, err)
		}
		x.run(t, []int{move(q, cut)}, 6)
	}
}

func TestDownAndUp(t *testing.T) {
	eachPair(func(q, s, d int) {
		x := seven(t)
		want := x.look(t)
		x.run(t, []int{move(q, up)}, 8)
		x.is(t, want)
		x.run(t, []int{move(q, down), move(q, down)}, 0, 6)
		want.Up[s] = false
		x.is(t, want)
		x.run(t, []int{move(q, up), move(q, up)}, 0, 8)
		want.Up[s] = true
		x.is(t, want)
	})
}

// Sites that a world has not are out of its bounds.
func TestFewerSites(t *testing.T) {
	for sites := 1; sites < api.MaxSites; sites++ {
		x := made(t, slices.Repeat([]int{1}, sites)...)
		done(t, x.Begin(0, 5), x.Down(0))
		was := x.look(t)
		eachPair(func(q, s, d int) {
			if s >= sites {
				for _, kind := range []int{begin, tick, refuse, link, cut, down, up} {
					x.run(t, []int{move(q, kind)}, 2)
				}
			}
			if d >= sites {
				x.run(t, []int{move(q, link)}, 2)
			}
		})
		x.is(t, was)
	}
}

// TestGreatestNumbers: their q has site 3, deal 4, is odd, and is 7 modulo 40.
func TestGreatestNumbers(t *testing.T) {
	x, y := seven(t), seven(t)
	var script []int
	for n := range 16 {
		script = append(script, math.MaxInt-n)
	}
	x.run(t, script, 8, 0, 6, 0, 6, 6, 6, 4, 4, 4, 4, 4, 4, 4, 4, 4)
	done(t, y.Down(3), y.Link(3, 4, false))
	x.is(t, y.look(t))
	x.run(t, []int{math.MaxInt}, 0)
	slices.Reverse(script)
	x.run(t, script, 4, 4, 4, 4, 4, 4, 4, 4, 4, 0, 0, 0, 0, 0, 0, 0)
	done(t, y.Up(3), y.Begin(3, 4), y.Down(3), y.Up(3))
	x.is(t, y.look(t))
	x.all()
	y.all()
	x.is(t, y.look(t))
	x.phases(t, 4, api.Voted, api.Voted, api.Voted, api.Voted, api.Nothing, api.Voted, api.Voted)
}

// Of a longer script only the first MaxSteps numbers are played.
func TestLongScripts(t *testing.T) {
	for _, steps := range []int{api.MaxSteps - 1, api.MaxSteps, api.MaxSteps + 1, 2 * api.MaxSteps, 1 << 20} {
		x := made(t, 1, 1, 1)
		script := slices.Repeat([]int{4}, steps)
		script[steps-1] = move(at(1, 2, 0), begin)
		want, lead := slices.Repeat([]int{4}, min(steps, 3000)), "none"
		if steps <= 3000 {
			want[steps-1], lead = 0, "asking"
		}
		x.run(t, script, want...)
		if l, err := x.Lead(1, 2); l != lead || err != nil {
			t.Errorf("%d steps: %q, %v", steps, l, err)
		}
	}
	// Those that are below 0 count, too.
	x := made(t, 1, 1, 1)
	script := append(slices.Repeat([]int{-1}, api.MaxSteps-1), 9, 0, 0)
	x.run(t, script, append(slices.Repeat([]int{-1}, api.MaxSteps-1), 0)...)
	x.phases(t, 0, api.Nothing, api.Nothing, api.Nothing)
}

// P3 and P4: a script is only read, and not behind its length; its answers are new.
func TestScriptsAreOnlyRead(t *testing.T) {
	x := made(t, 1, 1, 1)
	script := []int{9, 0, 0, -1, 9, 0}
	was := slices.Clone(script)
	x.run(t, script[:2:4], 0, 0)
	x.run(t, script[:0])
	x.phases(t, 0, api.Voted, api.Nothing, api.Nothing)
	got := play.Run(x.World, script[2:])
	if !slices.Equal(script, was) {
		t.Errorf("%v, was %v", script, was)
	}
	want := slices.Clone(got)
	for n := range script {
		script[n] = 77
	}
	if !slices.Equal(got, want) {
		t.Errorf("%v, was %v", got, want)
	}
	now := x.look(t)
	for n := range got {
		got[n] = 77
	}
	x.is(t, now)
	// Nor does a later play write into an earlier one's answers.
	one := play.Run(x.World, []int{0, 0, 0})
	kept := slices.Clone(one)
	play.Run(x.World, []int{-1, -1, -1, -1})
	_ = append(one, 5)
	if !slices.Equal(one, kept) {
		t.Errorf("%v, was %v", one, kept)
	}
}
