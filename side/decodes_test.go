package side_test

import (
	"errors"
	"slices"
	"strings"
	"testing"

	"threefold/api"
	"threefold/side"
	"threefold/sum"
	"threefold/wire"
)

func encoded(t *testing.T, f api.Frame) string {
	t.Helper()
	s, err := wire.Encode(f)
	if err != nil {
		t.Fatalf("Encode(%v): %v", f, err)
	}
	return s
}

// frames are n that differ.
func frames(n int) []api.Frame {
	var l []api.Frame
	for i := range n {
		l = append(l, api.Frame{From: i % 7, To: i / 7 % 7, Deal: i % 6, Kind: 1 + i%7, Attempt: i, Yes: i%2 == 0, S: api.State{Phase: i % 6, Promise: 3 * i, Attempt: api.MaxAttempt - i}})
	}
	return l
}

func texts(t *testing.T, l []api.Frame) []string {
	t.Helper()
	var out []string
	for _, f := range l {
		out = append(out, encoded(t, f))
	}
	return out
}

func decodes(t *testing.T, l []string, workers int, want ...api.Frame) {
	t.Helper()
	if got, err := side.Decodes(l, workers); err != nil || !slices.Equal(got, want) {
		t.Fatalf("Decodes(%d texts, %d): %v, %v, want %v", len(l), workers, got, err, want)
	}
}

func noDecodes(t *testing.T, what string, l []string, workers int, want error) {
	t.Helper()
	if got, err := side.Decodes(l, workers); err != want || len(got) != 0 {
		t.Errorf("%s: %v, %v, want %v, bare", what, got, err, want)
	}
}

// faulty fails unless the error is told with its place.
func faulty(t *testing.T, l []string, workers, at int, want error) {
	t.Helper()
	got, err := side.Decodes(l, workers)
	var f *api.Fault
	if len(got) != 0 || !errors.As(err, &f) || f.At != at || f.Err != want {
		t.Errorf("Decodes(%d texts, %d): %v, %v, want %v at %d", len(l), workers, got, err, want, at)
	}
	if fault, ok := err.(*api.Fault); !ok || fault != f || !errors.Is(err, want) {
		t.Errorf("Decodes(%d texts, %d): %#v is no fault of %v", len(l), workers, err, want)
	}
}

func summed(fields string) string {
	n := sum.Of(fields)
	return fields + string([]byte{byte(n), byte(n >> 8), byte(n >> 16), byte(n >> 24)})
}

// noFrames are texts that are none, by the error that wire.Decode has.
func noFrames(t *testing.T) map[error][]string {
	t.Helper()
	s := encoded(t, api.Frame{From: 1, To: 2, Kind: api.Vote})
	l := map[error][]string{
		api.ErrText:  {"", "what", s[:21], s + "\x00", summed(s[:8] + "\x02" + s[9:18])},
		api.ErrSum:   {s[:21] + string([]byte{s[21] ^ 1}), "\x00" + s[1:], strings.Repeat("\xff", 22)},
		api.ErrBound: {summed("\x07" + s[1:18]), summed(s[:3] + "\x00" + s[4:18])},
	}
	for want, list := range l {
		for _, bad := range list {
			if _, err := wire.Decode(bad); err != want {
				t.Fatalf("Decode(%q): %v, want %v", bad, err, want)
			}
		}
	}
	return l
}

// P110: decodes.

func TestDecodesByHand(t *testing.T) {
	l := []string{
		summed("\x01\x02\x00\x02\x00\x00\x00\x00\x00\x00\x00\x00\x00\x00\x00\x00\x00\x00"),
		summed("\x06\x00\x05\x05\x00\x10\x00\x00\x01\x04\x00\x00\x00\x03\x00\x00\x01\x02"),
	}
	want := []api.Frame{
		{From: 1, To: 2, Kind: api.Vote},
		{From: 6, Deal: 5, Kind: api.Pre, Attempt: api.MaxAttempt, Yes: true, S: api.State{Phase: api.PreCommit, Promise: 3, Attempt: 258}},
	}
	for workers := 1; workers <= api.Workers; workers++ {
		decodes(t, l, workers, want...)
		decodes(t, []string{l[1], l[0], l[1]}, workers, want[1], want[0], want[1])
	}
}

func TestFewAndManyTexts(t *testing.T) {
	all := frames(most)
	l := texts(t, all)
	for workers := 1; workers <= api.Workers; workers++ {
		decodes(t, nil, workers)
		decodes(t, []string{}, workers)
		for _, n := range []int{1, 2, 3, 15, 16, 17, 50, 99, most} {
			decodes(t, l[:n], workers, all[:n]...)
		}
		noDecodes(t, "101 texts", append(slices.Clone(l), l[0]), workers, api.ErrBound)
		noDecodes(t, "1000 texts", slices.Repeat(l, 10), workers, api.ErrBound)
	}
}

// One that is none, at each place.
func TestFaultAtEachPlace(t *testing.T) {
	all := texts(t, frames(most))
	bad := noFrames(t)
	for want, list := range bad {
		for n, s := range list {
			for _, workers := range some {
				faulty(t, []string{s}, workers, 0, want)
			}
			for at := n; at < most; at += 7 {
				l := slices.Clone(all)
				l[at] = s
				faulty(t, l, some[at%len(some)], at, want)
			}
			l := slices.Clone(all)
			l[most-1] = s
			faulty(t, l, 3, most-1, want)
		}
	}
}

// Of several the first is told, whatever the others are.
func TestFirstFault(t *testing.T) {
	all := texts(t, frames(most))
	bad := noFrames(t)
	for want := range bad {
		for other := range bad {
			for _, workers := range some {
				for _, at := range []int{0, 1, 14, 15, 16, 50, most - 2} {
					l := slices.Clone(all)
					l[at] = bad[want][0]
					for behind := at + 1; behind < most; behind++ {
						l[behind] = bad[other][behind%len(bad[other])]
					}
					faulty(t, l, workers, at, want)
					faulty(t, l[:at+1], workers, at, want)
				}
			}
		}
	}
}

// P3: workers, then texts, then what is in them.
func TestOrderOfErrorsOfDecodes(t *testing.T) {
	good := texts(t, frames(3))
	for _, workers := range wrong {
		noDecodes(t, "workers", good, workers, api.ErrShape)
		noDecodes(t, "workers, no texts", nil, workers, api.ErrShape)
		noDecodes(t, "workers and a fault", []string{"what"}, workers, api.ErrShape)
		noDecodes(t, "all three", make([]string, most+1), workers, api.ErrShape)
		noDecodes(t, "workers and texts", slices.Repeat(good, 40), workers, api.ErrShape)
	}
	for _, workers := range some {
		noDecodes(t, "texts and faults", make([]string, most+1), workers, api.ErrBound)
		faulty(t, make([]string, most), workers, 0, api.ErrText)
	}
}
