package script_test

import (
	"slices"
	"strings"
	"testing"

	"threefold/api"
)

// wrongLines are none, as they stand.
var wrongLines = []string{
	"", " ", "  ", "\x00", "\t", "\n", "0", "1 1 1", "what", "what 0 0", "ok", "-", "§", "\xff",
	"sites", "sites ", "sites  1", "sites 1 ", "sites 1  1", "sites 01", "sites 00", "sites 1 01", "sites 100000", "sites 1 1 100000", "sites 012345",
	"sites -1", "sites +1", "sites 1.0", "sites 1e3", "sites 0x1", "sites 1_0", "sites a", "sites 1,1", "sites 1 a", "sites 1\t1", "sites 1\n", "sites ١", "sites １",
	"site 1", "Sites 1", "SITES 1", "sitesx 1", "sites1",
	"begin", "begin 0", "begin 0 0 0", "begin 10 0", "begin 0 10", "begin 00 0", "begin 0 00", "begin 01 0", "begin  0 0", "begin 0  0", "begin 0 0 ", " begin 0 0",
	"begin 0 -", "begin - 0", "begin a 0", "begin 0 a", "begin -1 0", "begin 0 +1", "begin 0,0", "begin 0\t0", "begin\t0 0", "begin 0 /", "begin : 0", "begin 0 0\n", "begin 0 0\x00",
	"refuse", "refuse 0", "refuse 0 0 0", "refuse 10 0", "refuse 0 10", "refuse a 0",
	"tick", "tick ", "tick 0 0", "tick 10", "tick 00", "tick a", "tick  0", "tick 0 ", "tick -1",
	"go", "go ", "go -1", "go +1", "go 00", "go 01", "go 100000", "go 000000", "go 99999999999999999999999999", "go 0 0", "go a", "go 1a", "go a1", "go 0 ", "go  0", "Go 0", "go 1 ", "go ٣",
	"lose", "lose -1", "lose 00", "lose 100000", "lose 0 0", "lose x",
	"twice", "twice -1", "twice 00", "twice 100000", "twice 0 0", "twice x", "twice 18446744073709551616",
	"link", "link 0", "link 0 1 1", "link 10 0", "link 0 10", "link 0 x", "link 0 1 true",
	"break", "break 0", "break 0 1 1", "break 10 0", "break 0 10", "break x 0",
	"cut", "cut 0", "cut 0 0 0", "cut 10 0", "cut 0 100000", "cut 0 01", "cut 0 00", "cut 0 -1", "cut 00 0", "cut x 0", "cut 0 x",
	"down", "down 0 0", "down 10", "down x", "down ",
	"up", "up 0 0", "up 10", "up x", "up  0",
	"all ", "all 0", "all all", " all", "alle", "al", "ALL", "all\n",
	"fly ", "fly 0", " fly", "flying", "fl",
	"state", "state 0", "state 0 0 0", "state 10 0", "state 0 10", "state x 0", "state 0 x",
	"lead", "lead 0", "lead 0 0 0", "lead 10 0", "lead 0 10", "lead x 0", "lead 0 x",
	"is", "is 0 0", "is 10", "is x", "is ",
	"events ", "events 0", "event", " events",
	"check ", "check 0", "checks", " check",
}

// TestText: P121, ahead of all else: with sites and without.
func TestText(t *testing.T) {
	for _, line := range wrongLines {
		run(t, step{line, text}, step{"sites 1 1 1", "ok"}, step{"begin 0 0", "ok"}, step{line, text}, step{"fly", "3"}, step{"is 0", "up"}, step{"state 0 0", "nothing 0 0"})
	}
}

// TestTextChangesNothing: P121, each wrong line between right ones.
func TestTextChangesNothing(t *testing.T) {
	steps := []step{{"sites 1 1 1", "ok"}}
	for i, s := range rightLines {
		steps = append(steps, s)
		for k := i; k < len(wrongLines); k += len(rightLines) * 4 {
			steps = append(steps, step{wrongLines[k], text})
		}
	}
	run(t, steps...)
}

// TestDigits: P120, each single digit is a site, a deal and a number; none is text.
func TestDigits(t *testing.T) {
	for digit := range 10 {
		d := string(rune('0' + digit))
		for _, line := range []string{"sites " + d, "tick " + d, "is " + d, "go " + d, "begin 0 " + d, "state " + d + " 0", "cut 0 " + d, "cut " + d + " 0"} {
			if got := answers(t, []string{"sites 1 1", line})[1]; got == text {
				t.Errorf("%q: %q", line, got)
			}
		}
	}
	for _, n := range []string{"10", "99", "100", "909", "1000", "9999", "10000", "12345", "99999"} {
		run(t, step{"sites 1", "ok"}, step{"go " + n, none}, step{"lose " + n, none}, step{"twice " + n, none}, step{"cut 0 " + n, "ok"})
	}
}

// TestNumbersAreRead: P120, a number of several digits is just that one.
func TestNumbersAreRead(t *testing.T) {
	steps := []step{{"sites 1 1 1 1 1 1 1", "ok"}, {"begin 0 0", "ok"}, {"begin 0 1", "ok"}} // seven of deal 0, seven of deal 1
	steps = append(steps,
		step{"go 12", "ok"},
		step{"state 5 1", "voted 0 0"},
		step{"go 10", "ok"},
		step{"state 3 1", "voted 0 0"},
		step{"state 4 1", "nothing 0 0"},
		step{"lose 13", "ok"},
		step{"lose 13", none},
		step{"cut 1 10", "ok"},
		step{"go 1", "ok"},
		step{"is 1", "down"},
		step{"cut 2 20", "ok"},
		step{"go 1", "ok"},
		step{"is 2", "up"},
	)
	run(t, steps...)
}

// TestNoSites: P121, ahead of what the packages say; behind what is text.
func TestNoSites(t *testing.T) {
	var lines []string
	for _, s := range rightLines {
		lines = append(lines, s.line)
	}
	lines = append(lines, "begin 9 9", "refuse 9 9", "tick 9", "go 99999", "lose 99999", "twice 99999", "link 9 9", "break 9 9", "cut 9 99999", "down 9", "up 9", "state 9 9", "lead 9 9", "is 9")
	run(t, all(none, lines...)...)
	run(t, slices.Concat(all(none, "sites 0"), all(bound, "sites 1001"), all(shape, "sites 1 1 1 1 1 1 1 1"), all(none, lines...))...)
}

// TestLongLines: P1.
func TestLongLines(t *testing.T) {
	const much = 1 << 20
	run(t,
		step{strings.Repeat("x", much), text},
		step{strings.Repeat(" ", much), text},
		step{"go " + strings.Repeat("1", much), text},
		step{"sites " + strings.Repeat("0", much), text},
		step{"sites" + strings.Repeat(" 1", much), shape},
		step{"sites" + strings.Repeat(" 1", much) + " ", text},
		step{"begin" + strings.Repeat(" 1", much), text},
		step{"all" + strings.Repeat(" 1", much), text},
		step{"fly", none},
	)
}

// TestErrorTexts: P121, they are those of package api.
func TestErrorTexts(t *testing.T) {
	for err, want := range map[error]string{api.ErrText: text, api.ErrBound: bound, api.ErrShape: shape, api.ErrNone: none, api.ErrOff: off, api.ErrHeld: held} {
		if err.Error() != want {
			t.Errorf("%v, want %q", err, want)
		}
	}
}
