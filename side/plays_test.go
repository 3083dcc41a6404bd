package side_test

import (
	"math"
	"slices"
	"testing"

	"threefold/api"
	"threefold/play"
	"threefold/side"
	"threefold/world"
)

const most = 100 // scripts or texts

// some are numbers of workers that there may be: the edges, and one between.
var some = []int{1, 2, 5, api.Workers}

// wrong are numbers of workers that there may not be.
var wrong = []int{0, api.Workers + 1, -1, 100, math.MinInt, math.MaxInt}

func same(a, b side.Told) bool {
	return slices.Equal(a.Answers, b.Answers) && slices.Equal(a.Events, b.Events)
}

// plays fails unless it is told just that of the scripts.
func plays(t *testing.T, w []int, scripts [][]int, workers int, want ...side.Told) {
	t.Helper()
	got, err := side.Plays(w, scripts, workers)
	if err != nil || !slices.EqualFunc(got, want, same) {
		t.Fatalf("Plays(%v, %d scripts, %d): %v, %v, want %v", w, len(scripts), workers, got, err, want)
	}
}

// alone is what is told of a script that is played by nobody else.
func alone(t *testing.T, w, script []int) side.Told {
	t.Helper()
	x, err := world.New(w)
	if err != nil {
		t.Fatalf("New(%v): %v", w, err)
	}
	answers := play.Run(x, script)
	return side.Told{Answers: answers, Events: x.Events()}
}

func noPlays(t *testing.T, what string, w []int, scripts [][]int, workers int, want error) {
	t.Helper()
	if got, err := side.Plays(w, scripts, workers); err != want || len(got) != 0 {
		t.Errorf("%s: %v, %v, want %v, bare", what, got, err, want)
	}
}

// Moves, by their numbers.
const (
	begin  = 9
	tick   = 10
	refuse = 11
	down   = 14
	up     = 15
)

func move(q, kind int) int { return 16*q + kind }

// P110: plays.

// byHand are plays of three sites of one weight, each with what must be told of it.
func byHand() (scripts [][]int, want []side.Told) {
	add := func(script, answers []int, events ...world.Event) {
		scripts = append(scripts, script)
		want = append(want, side.Told{Answers: answers, Events: events})
	}
	// Three asks, votes, preparations, answers, decisions; then nothing flies.
	add(slices.Concat([]int{begin}, make([]int, 16)), slices.Concat(make([]int, 16), []int{4}),
		world.Event{Site: 0, Deal: 0, Phase: api.Committed}, world.Event{Site: 1, Deal: 0, Phase: api.Committed}, world.Event{Site: 2, Deal: 0, Phase: api.Committed})
	// Site 1 votes no: deal 2, led by site 2. Site 1 has aborted as it votes; the others are told.
	add(slices.Concat([]int{move(1+14, refuse), move(2+14, begin)}, make([]int, 10)), slices.Concat(make([]int, 11), []int{4}),
		world.Event{Site: 1, Deal: 2, Phase: api.Aborted}, world.Event{Site: 0, Deal: 2, Phase: api.Aborted}, world.Event{Site: 2, Deal: 2, Phase: api.Aborted})
	// No end is reached.
	add([]int{begin, 0, 0, 0}, []int{0, 0, 0, 0})
	// All kinds of errors: held, off, bound, none; and no move. (The last number is Up of site 3, which there is not.)
	add([]int{begin, begin, move(1, down), move(1, tick), move(3, tick), move(1, up), move(1, up), -1}, []int{0, 8, 0, 6, 2, 0, 8, -1})
	add([]int{0, 7, 8, math.MinInt, math.MaxInt}, []int{4, 4, 4, -1, 2})
	add(nil, nil)
	return scripts, want
}

func TestPlaysByHand(t *testing.T) {
	scripts, want := byHand()
	for workers := 1; workers <= api.Workers; workers++ {
		plays(t, []int{1, 1, 1}, scripts, workers, want...)
		for at := range scripts {
			plays(t, []int{1, 1, 1}, scripts[at:at+1], workers, want[at])
		}
	}
}

// The weights are those of the worlds: here site 2 alone decides, and here there is one site.
func TestPlaysHaveTheWeights(t *testing.T) {
	script := []int{move(2, begin), 0, 0, 0, 0, 0, 0, 2, 2, 0, 0, 0}
	for _, w := range [][]int{{1}, {1, 1, 5}, {5, 1, 1}, {0, 0, 1000}, {1, 1, 1, 1, 1, 1, 1}} {
		for _, workers := range some {
			plays(t, w, [][]int{script, {begin, 0, 0, 0, 0, 0}}, workers, alone(t, w, script), alone(t, w, []int{begin, 0, 0, 0, 0, 0}))
		}
	}
	plays(t, []int{1}, [][]int{{begin, 0, 0, 0, 0, 0, 0}}, 1, side.Told{Answers: []int{0, 0, 0, 0, 0, 0, 4}, Events: []world.Event{{Site: 0, Deal: 0, Phase: api.Committed}}})
}

// In one world only the first could begin.
func TestEachScriptHasAWorldOfItsOwn(t *testing.T) {
	for _, workers := range some {
		scripts := slices.Repeat([][]int{{begin, begin}}, most)
		want := slices.Repeat([]side.Told{{Answers: []int{0, 8}}}, most)
		plays(t, []int{1, 2}, scripts, workers, want...)
	}
}

func TestFewAndManyScripts(t *testing.T) {
	for _, workers := range some {
		plays(t, []int{1}, nil, workers)
		plays(t, []int{1}, [][]int{}, workers)
		for _, n := range []int{1, 2, 15, 16, 17, 99, most} {
			plays(t, []int{1}, make([][]int, n), workers, make([]side.Told, n)...)
		}
		noPlays(t, "101 scripts", []int{1}, make([][]int, most+1), workers, api.ErrBound)
		noPlays(t, "1000 scripts", []int{1}, make([][]int, 1000), workers, api.ErrBound)
	}
}

// As play.Run has it, of a script that is too long the first numbers are played.
func TestLongScripts(t *testing.T) {
	script := slices.Repeat([]int{move(0, begin), 0, move(1, tick), 3}, api.MaxSteps)
	for _, n := range []int{api.MaxSteps - 1, api.MaxSteps, api.MaxSteps + 1, len(script)} {
		got, err := side.Plays([]int{1, 1}, [][]int{script[:n], nil, script[:n]}, 3)
		if err != nil || len(got) != 3 {
			t.Fatal(len(got), err)
		}
		for at, length := range []int{min(n, api.MaxSteps), 0, min(n, api.MaxSteps)} {
			if len(got[at].Answers) != length || !same(got[at], alone(t, []int{1, 1}, [][]int{script[:n], nil}[at%2])) {
				t.Errorf("%d numbers: %d answers at %d", n, len(got[at].Answers), at)
			}
		}
	}
}

func TestWrongWorkersOfPlays(t *testing.T) {
	for _, workers := range wrong {
		noPlays(t, "workers", []int{1}, [][]int{{begin}}, workers, api.ErrShape)
		noPlays(t, "workers, no scripts", []int{1}, nil, workers, api.ErrShape)
	}
}

// wrongWeights are weights of which no world is made, by the error that world.New has.
func wrongWeights() map[error][][]int {
	return map[error][][]int{
		api.ErrShape: {nil, {}, {1, 1, 1, 1, 1, 1, 1, 1}, {-1, 0, 0, 0, 0, 0, 0, 0}},
		api.ErrBound: {{-1}, {1, api.MaxWeight + 1}, {0, -1}, {math.MinInt}, {1, math.MaxInt}},
		api.ErrNone:  {{0}, {0, 0, 0, 0, 0, 0, 0}},
	}
}

func TestWrongWeights(t *testing.T) {
	for want, list := range wrongWeights() {
		for _, w := range list {
			for _, workers := range some {
				noPlays(t, "weights", w, [][]int{{begin}, nil, {0}}, workers, want)
				noPlays(t, "weights, no scripts", w, nil, workers, want)
				noPlays(t, "weights, 100 scripts", w, make([][]int, most), workers, want)
			}
		}
	}
}

// P3: workers, then scripts, then weights.
func TestOrderOfErrorsOfPlays(t *testing.T) {
	for _, list := range wrongWeights() {
		for _, w := range list {
			for _, workers := range wrong {
				noPlays(t, "all three", w, make([][]int, most+1), workers, api.ErrShape)
				noPlays(t, "workers and weights", w, nil, workers, api.ErrShape)
			}
			for _, workers := range some {
				noPlays(t, "scripts and weights", w, make([][]int, most+1), workers, api.ErrBound)
			}
		}
	}
	for _, workers := range wrong {
		noPlays(t, "workers and scripts", []int{1}, make([][]int, most+1), workers, api.ErrShape)
	}
}
