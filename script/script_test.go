package script_test

import (
	"slices"
	"strings"
	"testing"

	"threefold/api"
	"threefold/script"
)

const (
	text  = "threefold: text"
	bound = "threefold: bound"
	shape = "threefold: shape"
	none  = "threefold: none"
	off   = "threefold: off"
	held  = "threefold: held"
)

// step is a line with its answer.
type step struct{ line, answer string }

// run has all steps in one script.
func run(t *testing.T, steps ...step) {
	t.Helper()
	var lines []string
	for _, s := range steps {
		lines = append(lines, s.line)
	}
	got := answers(t, lines)
	for i, s := range steps {
		if got[i] != s.answer {
			t.Errorf("line %d, %q: %q, want %q", i, s.line, got[i], s.answer)
		}
	}
}

// answers must be one for each line.
func answers(t *testing.T, lines []string) []string {
	t.Helper()
	got, err := script.Run(lines)
	if err != nil || len(got) != len(lines) {
		t.Fatalf("Run(%q): %q, %v", lines, got, err)
	}
	return got
}

// all are steps with the same answer.
func all(answer string, lines ...string) []step {
	var l []step
	for _, line := range lines {
		l = append(l, step{line, answer})
	}
	return l
}

func times(n int, line, answer string) []step {
	return all(answer, slices.Repeat([]string{line}, n)...)
}

// rightLines is each command once, in an order in which a world of three sites answers all of them.
var rightLines = []step{
	{"refuse 1 3", "ok"},
	{"begin 0 2", "ok"},
	{"fly", "3"},
	{"lead 0 2", "asking"},
	{"tick 0", "ok"},
	{"twice 2", "ok"},
	{"lose 3", "ok"},
	{"break 0 1", "ok"},
	{"link 1 0", "ok"},
	{"go 0", "ok"},
	{"all", "14"},
	{"state 0 2", "committed 0 0"},
	{"events", "0 2 committed, 1 2 committed, 2 2 committed"},
	{"check", "ok"},
	{"cut 2 5", "ok"},
	{"down 1", "ok"},
	{"is 1", "down"},
	{"up 1", "ok"},
}

// TestHowManyLines: P120.
func TestHowManyLines(t *testing.T) {
	for _, n := range []int{0, 1, api.MaxLines - 1, api.MaxLines} {
		for _, answer := range answers(t, make([]string, n)) {
			if answer != text {
				t.Errorf("an empty line of %d: %q", n, answer)
			}
		}
	}
	answers(t, nil)
	for _, n := range []int{api.MaxLines + 1, 1000, 100000} {
		for _, line := range []string{"", "sites 1", "what"} {
			if got, err := script.Run(slices.Repeat([]string{line}, n)); len(got) != 0 || err != api.ErrBound {
				t.Errorf("%d lines %q: %d answers, %v, want %v", n, line, len(got), err, api.ErrBound)
			}
		}
	}
}

// TestEachCommand: P120.
func TestEachCommand(t *testing.T) {
	run(t, append([]step{{"sites 1 1 1", "ok"}}, rightLines...)...)
}

// TestVotesOnTheirWay: P120, frame by frame; each number is one of the frames that fly.
func TestVotesOnTheirWay(t *testing.T) {
	run(t,
		step{"sites 1 1 1", "ok"},
		step{"begin 0 5", "ok"}, // Ask to 0, 1, 2
		step{"go 2", "ok"},      // Ask to 0, 1; Vote of 2
		step{"state 2 5", "voted 0 0"},
		step{"state 1 5", "nothing 0 0"},
		step{"twice 2", "ok"},
		step{"fly", "4"},
		step{"lose 0", "ok"}, // Ask to 1; Vote of 2, twice
		step{"state 0 5", "nothing 0 0"},
		step{"go 3", none},
		step{"lose 3", none},
		step{"twice 3", none},
		step{"all", "4"},
		step{"state 0 5", "nothing 0 0"},
		step{"state 1 5", "voted 0 0"},
		step{"lead 0 5", "asking"},
		step{"fly", "0"},
		step{"all", "0"},
		step{"go 0", none},
		step{"lose 0", none},
		step{"twice 0", none},
		step{"events", "nothing"},
		step{"check", "ok"},
	)
}

// TestPhases: P120, each phase by its name, with promises and attempts.
func TestPhases(t *testing.T) {
	run(t,
		step{"sites 1 1 1", "ok"},
		step{"begin 0 0", "ok"},
		step{"lose 0", "ok"},
		step{"go 0", "ok"}, // site 1 has voted
		step{"lose 0", "ok"},
		step{"lose 0", "ok"},
		step{"lead 1 0", "none"},
		step{"tick 1", "ok"}, // Elect to 0 and 2
		step{"lead 1 0", "asking"},
		step{"state 1 0", "voted 1 0"},
		step{"go 0", "ok"},
		step{"state 0 0", "nothing 1 0"},
		step{"go 1", "ok"}, // Tell of 0: Elect to 2; Pre to 0, 1, 2
		step{"lead 1 0", "preparing"},
		step{"go 1", "ok"},
		step{"state 0 0", "preabort 1 1"},
		step{"all", "10"}, // Elect, Pre, Pre, Ack of 0, Tell of 2, Ack of 1 and of 2, Decide to 0, 1, 2
		step{"state 2 0", "aborted 1 1"},
		step{"lead 1 0", "done"},
	)
}

// TestPrecommit: P120.
func TestPrecommit(t *testing.T) {
	steps := []step{{"sites 2 1 1", "ok"}, {"begin 2 1", "ok"}}
	steps = append(steps, times(6, "go 0", "ok")...)
	steps = append(steps,
		step{"lead 2 1", "preparing"},
		step{"go 1", "ok"},
		step{"state 1 1", "precommit 0 0"},
		step{"state 0 1", "voted 0 0"},
		step{"tick 0", "ok"},
		step{"tick 0", "ok"},
		step{"tick 0", "ok"},
		step{"tick 0", "ok"},
		step{"state 0 1", "voted 12 0"},
		step{"lead 0 1", "asking"},
		step{"events", "nothing"},
	)
	run(t, steps...)
}

// TestRefused: P120, an end that is no, and a lead that is refused.
func TestRefused(t *testing.T) {
	run(t,
		step{"sites 1 1 1", "ok"},
		step{"refuse 2 4", "ok"},
		step{"begin 1 4", "ok"},
		step{"all", "9"},
		step{"lead 1 4", "done"},
		step{"state 0 4", "aborted 0 0"},
		step{"state 1 4", "aborted 0 0"},
		step{"state 2 4", "aborted 0 0"},
		step{"events", "2 4 aborted, 0 4 aborted, 1 4 aborted"},
		step{"check", "ok"},
		step{"begin 0 0", "ok"},
		step{"go 0", "ok"},
		step{"go 0", "ok"},
		step{"lose 0", "ok"},
		step{"lose 0", "ok"},
		step{"lose 0", "ok"},
		step{"fly", "0"},
		step{"lead 2 0", "none"},
		step{"tick 1", "ok"}, // Decide of deal 4 to all, behind Elect of 1 to 0 and 2
		step{"fly", "5"},
		step{"tick 0", "ok"}, // promises 3 ahead of hearing of 1
		step{"state 0 0", "voted 3 0"},
		step{"go 0", "ok"},
		step{"all", "22"},
		step{"lead 1 0", "refused"},
		step{"lead 0 0", "done"},
		step{"state 2 0", "aborted 3 3"},
	)
}

// TestLinks: P120; both ways are one link, and a frame on a broken one is delivered to nobody.
func TestLinks(t *testing.T) {
	run(t,
		step{"sites 1 1 1", "ok"},
		step{"break 2 0", "ok"},
		step{"begin 0 0", "ok"},
		step{"all", "5"},
		step{"state 1 0", "voted 0 0"},
		step{"state 2 0", "nothing 0 0"},
		step{"link 0 2", "ok"},
		step{"break 1 1", "ok"},
		step{"tick 1", "ok"},
		step{"go 1", "ok"},
		step{"state 2 0", "nothing 1 0"},
		step{"break 0 9", bound},
		step{"break 3 0", bound},
		step{"link 0 3", bound},
		step{"link 9 0", bound},
	)
}

// TestPower: P120 and P121; a first state takes eighteen bytes of a plate.
func TestPower(t *testing.T) {
	run(t,
		step{"sites 1 1", "ok"},
		step{"cut 0 17", "ok"},
		step{"cut 1 18", "ok"},
		step{"begin 0 0", "ok"},
		step{"begin 0 1", "ok"},
		step{"go 1", "ok"},
		step{"is 1", "up"},
		step{"state 1 0", "voted 0 0"},
		step{"go 0", "ok"},
		step{"is 0", "down"},
		step{"state 0 0", "nothing 0 0"},
		step{"lead 0 0", "none"},
		step{"begin 0 5", off},
		step{"refuse 0 0", off},
		step{"tick 0", off},
		step{"cut 0 0", off},
		step{"down 0", off},
		step{"begin 0 6", bound},
		step{"refuse 0 6", bound},
		step{"up 0", "ok"},
		step{"up 0", held},
		step{"is 0", "up"},
		step{"begin 0 0", held},
		step{"begin 0 1", "ok"},
		step{"begin 1 1", held},
		step{"cut 0 99999", "ok"},
		step{"cut 0 0", "ok"},
		step{"down 1", "ok"},
		step{"is 1", "down"},
		step{"state 1 0", "voted 0 0"},
	)
}

// TestNumbersThatAreNone: P121, a digit is text, whatever the world has.
func TestNumbersThatAreNone(t *testing.T) {
	steps := []step{{"sites 1 1 1", "ok"}, {"begin 0 0", "ok"}}
	steps = append(steps, all(bound,
		"begin 3 0", "begin 0 6", "begin 9 9", "refuse 3 0", "refuse 0 6", "tick 3", "tick 9", "link 3 0", "link 0 3", "break 3 0", "break 0 3",
		"cut 3 0", "cut 9 99999", "down 3", "up 3", "state 3 0", "state 0 6", "lead 3 0", "lead 0 6", "is 3", "is 9")...)
	steps = append(steps, all(none, "go 3", "go 99999", "lose 3", "lose 10", "twice 3", "twice 12345")...)
	steps = append(steps, step{"fly", "3"}, step{"events", "nothing"})
	run(t, steps...)
}

// TestSites: P120 and P121, with world.New's errors in their order.
func TestSites(t *testing.T) {
	ones := "sites" + strings.Repeat(" 1", 7)
	run(t,
		step{"sites 0", none},
		step{"sites 0 0 0", none},
		step{"sites 1001", bound},
		step{"sites 0 1001", bound},
		step{"sites 99999 1", bound},
		step{ones + " 1", shape},
		step{ones + " 1001", shape},
		step{ones + " 0" + strings.Repeat(" 99999", 500), shape},
		step{"fly", none},
		step{"sites 1", "ok"},
		step{"is 0", "up"},
		step{"is 1", bound},
		step{"sites 0 1000", "ok"},
		step{"is 1", "up"},
		step{"is 2", bound},
		step{ones, "ok"},
		step{"is 6", "up"},
		step{"is 7", bound},
		step{"sites 0 0 0 0 0 0 7", "ok"},
	)
}

// TestWeights: P120: they are the world's, in their order: by them sites 0 and 1 are a quorum, or are none.
func TestWeights(t *testing.T) {
	for _, w := range []struct{ line, delivered, end string }{
		{"sites 1 1 1", "8", "aborted 1 1"},
		{"sites 3 1 1", "8", "aborted 1 1"},
		{"sites 1 3 1", "8", "aborted 1 1"},
		{"sites 1 1 3", "0", "voted 1 0"},
		{"sites 1000 999 1000", "8", "aborted 1 1"},
		{"sites 1 999 1000", "0", "voted 1 0"},
		{"sites 1 1000 1000", "8", "aborted 1 1"},
		{"sites 500 0 500", "0", "voted 1 0"},
		{"sites 501 0 500", "8", "aborted 1 1"},
	} {
		run(t,
			step{w.line, "ok"},
			step{"down 2", "ok"},
			step{"begin 0 0", "ok"},
			step{"all", "5"},
			step{"state 1 0", "voted 0 0"},
			step{"tick 1", "ok"},
			step{"go 1", "ok"}, // to site 2
			step{"go 0", "ok"},
			step{"go 0", "ok"},
			step{"all", w.delivered},
			step{"state 1 0", w.end},
		)
	}
}

// TestSitesAnew: P120, a new world has nothing of the one ahead; weights that are none leave it as it is (P3).
func TestSitesAnew(t *testing.T) {
	run(t,
		step{"sites 1 1 1", "ok"},
		step{"refuse 1 1", "ok"},
		step{"begin 0 0", "ok"},
		step{"go 0", "ok"},
		step{"all", "14"},
		step{"break 0 1", "ok"},
		step{"cut 0 0", "ok"},
		step{"begin 2 1", "ok"},
		step{"down 1", "ok"},
		step{"sites 0", none},
		step{"sites 1 1001", bound},
		step{"sites 1 1 1 1 1 1 1 1", shape},
		step{"sites 01", text},
		step{"fly", "3"},
		step{"is 1", "down"},
		step{"is 2", "up"},
		step{"lead 2 1", "asking"},
		step{"state 0 0", "committed 0 0"},
		step{"check", "ok"},
		step{"sites 1 1", "ok"},
		step{"is 2", bound},
		step{"is 1", "up"},
		step{"fly", "0"},
		step{"events", "nothing"},
		step{"check", "ok"},
		step{"lead 0 0", "none"},
		step{"state 0 0", "nothing 0 0"},
		step{"begin 0 1", "ok"},
		step{"all", "10"},
		step{"events", "0 1 committed, 1 1 committed"},
		step{"check", "ok"},
	)
}

// TestAllEnds: P120, at MaxSteps; what is left still flies.
func TestAllEnds(t *testing.T) {
	steps := []step{{"sites 1 1 1 1 1 1 1", "ok"}}
	for _, deal := range []string{"0", "1", "2", "3", "4", "5"} {
		steps = append(steps, step{"begin 6 " + deal, "ok"})
	}
	steps = append(steps, step{"all", "210"}) // 35 a deal
	steps = append(steps, times(71, "tick 3", "ok")...)
	steps = append(steps,
		step{"fly", "2982"}, // 42 a tick
		step{"all", "2982"},
		step{"fly", "0"},
	)
	run(t, steps...)

	steps = steps[:8]
	steps = append(steps, times(72, "tick 3", "ok")...)
	steps = append(steps,
		step{"fly", "3024"},
		step{"all", "3000"},
		step{"fly", "24"},
		step{"all", "24"},
		step{"all", "0"},
		step{"check", "ok"},
	)
	run(t, steps...)
}

// TestCheckKnowsAllSites: P120, with events of the last site in worlds of each size.
func TestCheckKnowsAllSites(t *testing.T) {
	line := "sites"
	for n := 1; n <= api.MaxSites; n++ {
		line += " 1"
		got := answers(t, []string{line, "begin 0 0", "check", "all", "check", "events"})
		if got[0] != "ok" || got[2] != "ok" || got[4] != "ok" || strings.Count(got[5], ", ") != n-1 {
			t.Errorf("%q: %q", line, got)
		}
	}
}
