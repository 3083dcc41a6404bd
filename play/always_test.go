package play_test

import (
	"errors"
	"math"
	"math/rand"
	"reflect"
	"slices"
	"sync"
	"testing"

	"threefold/api"
	"threefold/judge"
	"threefold/play"
	"threefold/weights"
)

func anyWeights(r *rand.Rand) []int {
	w := make([]int, 1+r.Intn(api.MaxSites))
	for weights.Check(w) != nil {
		for s := range w {
			w[s] = r.Intn(4)
		}
	}
	return w
}

// places in this list are how likely a move is.
var likely = slices.Concat(slices.Repeat([]int{0, 1, 2, 3, 4, 5, 6}, 8), []int{drop, twice, twice, begin, begin, begin, begin, tick, tick, refuse, link, link, link, cut, down, up, up, up})

// anyScript is of numbers that mostly are well.
func anyScript(r *rand.Rand, sites, steps int) []int {
	var l []int
	for range steps {
		q := at(r.Intn(sites), r.Intn(3), r.Intn(20))
		switch r.Intn(12) {
		case 0:
			q = r.Intn(1000)
		case 1:
			q = r.Intn(math.MaxInt / 16)
		}
		n := move(q, likely[r.Intn(len(likely))])
		if r.Intn(50) == 0 {
			n = -1 - r.Intn(100)
		}
		l = append(l, n)
	}
	return l
}

// said is P100 again, number by number: the call that it names, and its answer.
func (x stage) said(n int) int {
	if n < 0 {
		return -1
	}
	q, left := n>>4, n&15
	s, d := q%7, (q-q%7)/7%6
	if left <= 8 {
		fly := len(x.Flying())
		if fly == 0 {
			return 4
		}
		q %= fly
	}
	calls := []func() error{
		7:  func() error { return x.Drop(q) },
		8:  func() error { return x.Twice(q) },
		9:  func() error { return x.Begin(s, d) },
		10: func() error { return x.Tick(s) },
		11: func() error { return x.Refuse(s, d) },
		12: func() error { return x.Link(s, d, q&1 == 0) },
		13: func() error { return x.Cut(s, q%40) },
		14: func() error { return x.Down(s) },
		15: func() error { return x.Up(s) },
	}
	if left < 7 {
		return number(x.Deliver(q))
	}
	return number(calls[left]())
}

func number(err error) int {
	for n, e := range []error{nil, api.ErrText, api.ErrBound, api.ErrShape, api.ErrNone, api.ErrFull, api.ErrOff, api.ErrSum, api.ErrHeld, api.ErrSplit} {
		if errors.Is(err, e) {
			return n
		}
	}
	return -1
}

// TestAgainstTheChapter: P100, by scripts with fixed seeds, at each step.
func TestAgainstTheChapter(t *testing.T) {
	count := map[int]int{}
	for seed := range int64(150) {
		r := rand.New(rand.NewSource(seed))
		w := anyWeights(r)
		x, y, z := made(t, w...), made(t, w...), made(t, w...)
		script := anyScript(r, len(w), 200)
		var answers []int
		for _, n := range script {
			want := y.said(n)
			answers = append(answers, want)
			count[want]++
			x.run(t, []int{n}, want)
			x.is(t, y.look(t))
		}
		z.run(t, script, answers...)
		z.is(t, y.look(t))
	}
	for _, n := range []int{-1, 0, 2, 4, 6, 8} {
		if count[n] < 100 {
			t.Errorf("these plays show little: %v", count)
		}
	}
}

func in(set, s int) bool { return set>>s&1 == 1 }

// round is one of P101's, again, by what the world says of its sites.
func (x stage) round(set int) int {
	for s := range x.sites {
		if is, err := x.Is(s); is && err == nil && in(set, s) {
			x.Tick(s)
		}
	}
	n := 0
	for ; len(x.Flying()) > 0; n++ {
		x.Deliver(0)
	}
	return n
}

// TestRoundsAgainstTheChapter: P101, behind scripts with fixed seeds.
func TestRoundsAgainstTheChapter(t *testing.T) {
	for seed := range int64(300) {
		r := rand.New(rand.NewSource(seed))
		w := anyWeights(r)
		x, y := made(t, w...), made(t, w...)
		for range 3 {
			script := anyScript(r, len(w), 60)
			play.Run(x.World, script)
			play.Run(y.World, script)
			set, n, want := r.Intn(1<<7), r.Intn(4), 0
			for range n {
				want += y.round(set)
			}
			x.rounds(t, set, n, want)
			x.is(t, y.look(t))
		}
	}
}

// TestTwoRoundsEndAll: when a quorum is together, behind a play, two rounds of it decide at all of it what one of it knows.
func TestTwoRoundsEndAll(t *testing.T) {
	count := [api.PreAbort + 1]int{}
	for seed := range int64(300) {
		r := rand.New(rand.NewSource(seed))
		w := anyWeights(r)
		x := made(t, w...)
		play.Run(x.World, anyScript(r, len(w), 200))
		set := r.Intn(1 << len(w))
		for is, _ := weights.Enough(w, set); !is; is, _ = weights.Enough(w, set) {
			set = r.Intn(1 << len(w))
		}
		x.gather(t, set)
		if _, err := play.Rounds(x.World, set, 2); err != nil {
			t.Fatal(err)
		}
		done(t, judge.Check(x.Events(), x.sites))
		for deal := range api.MaxDeals {
			count[x.ended(t, set, deal)]++
		}
	}
	if count[api.Committed] < 50 || count[api.Aborted] < 50 {
		t.Errorf("these plays show little: %v", count)
	}
}

// gather has a set up and whole, without cuts ahead, and the others cut off.
func (x stage) gather(t *testing.T, set int) {
	t.Helper()
	for a := range x.sites {
		if in(set, a) {
			x.Down(a)
			done(t, x.Up(a))
		}
		for b := range a {
			done(t, x.Link(a, b, in(set, a) && in(set, b)))
		}
	}
}

// ended is the phase of a deal that all of a set must have: an end, or none of them knows the deal.
func (x stage) ended(t *testing.T, set, deal int) int {
	t.Helper()
	phases := map[int]int{}
	end := 0
	for s := range x.sites {
		if !in(set, s) {
			continue
		}
		st, err := x.State(s, deal)
		done(t, err)
		phases[st.Phase]++
		end = st.Phase
		if end != api.Committed && end != api.Aborted && st != (api.State{}) {
			t.Fatalf("set %b, deal %d, site %d: %v", set, deal, s, st)
		}
	}
	if len(phases) != 1 {
		t.Fatalf("set %b, deal %d: %v", set, deal, phases)
	}
	return end
}

// told is all that a play is: its answers, and the world behind it.
type told struct {
	answers []int
	count   int
	is      view
}

func (x stage) played(t *testing.T, script []int, set int) told {
	t.Helper()
	answers := play.Run(x.World, script)
	n, err := play.Rounds(x.World, set, 1)
	done(t, err)
	return told{answers, n, x.look(t)}
}

// P102: the same script makes the same play: again, in pieces, and beside others.
func TestTheSamePlay(t *testing.T) {
	for seed := range int64(100) {
		r := rand.New(rand.NewSource(seed))
		w := anyWeights(r)
		script, set := anyScript(r, len(w), 300), r.Intn(1<<len(w))
		want := made(t, w...).played(t, script, set)
		for range 3 {
			if again := made(t, w...).played(t, slices.Clone(script), set); !reflect.DeepEqual(again, want) {
				t.Fatalf("%v, and again %v", want, again)
			}
		}
		pieces := made(t, w...)
		half := r.Intn(len(script))
		first := play.Run(pieces.World, script[:half])
		rest := pieces.played(t, script[half:], set)
		rest.answers = slices.Concat(first, rest.answers)
		if !reflect.DeepEqual(rest, want) {
			t.Fatalf("%v, and in pieces %v", want, rest)
		}
	}
}

func TestTheSamePlaySideBySide(t *testing.T) {
	r := rand.New(rand.NewSource(7))
	script := anyScript(r, 5, 1000)
	want := made(t, 1, 2, 1, 0, 3).played(t, script, 0b11011)
	var worlds []stage
	for range 20 {
		worlds = append(worlds, made(t, 1, 2, 1, 0, 3))
	}
	got, errs := make([]told, len(worlds)), make([]error, len(worlds))
	var group sync.WaitGroup
	for n, x := range worlds {
		group.Go(func() {
			got[n].answers = play.Run(x.World, script)
			got[n].count, errs[n] = play.Rounds(x.World, 0b11011, 1)
		})
	}
	group.Wait()
	done(t, errs...)
	for n, x := range worlds {
		got[n].is = x.look(t)
		if !reflect.DeepEqual(got[n], want) {
			t.Errorf("play %d: %v, want %v", n, got[n], want)
		}
	}
}

// What is played in another world meanwhile changes nothing.
func TestWorldsAreApart(t *testing.T) {
	r := rand.New(rand.NewSource(3))
	script := anyScript(r, 4, 400)
	x, y := made(t, 1, 1, 1, 1), made(t, 1, 1, 1, 1)
	want := made(t, 1, 1, 1, 1).played(t, script, 0b1111)
	var answers []int
	for n, number := range script {
		answers = append(answers, play.Run(x.World, []int{number})...)
		play.Run(y.World, []int{script[len(script)-1-n]})
	}
	got := x.played(t, nil, 0b1111)
	got.answers = answers
	if !reflect.DeepEqual(got, want) {
		t.Errorf("%v, want %v", got, want)
	}
}
