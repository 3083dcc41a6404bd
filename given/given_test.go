// Package given tests what the packages api and plain are promised to be, from outside: their own folders stay as they were given.
package given

import (
	"errors"
	"testing"

	"threefold/api"
	"threefold/plain"
)

func TestBounds(t *testing.T) {
	got := [...]int{api.MaxSites, api.MaxWeight, api.MaxDeals, api.MaxAttempt, api.MaxBytes, api.Slot, api.MaxEvents, api.MaxSteps, api.MaxLines, api.Workers}
	if want := [...]int{7, 1000, 6, 1048576, 512, 18, 500, 3000, 100, 16}; got != want {
		t.Error(got, want)
	}
}

func TestPhasesAndKinds(t *testing.T) {
	phases := [...]int{api.Nothing, api.Voted, api.Committed, api.Aborted, api.PreCommit, api.PreAbort}
	if want := [...]int{0, 1, 2, 3, 4, 5}; phases != want {
		t.Error(phases, want)
	}
	kinds := [...]int{api.Ask, api.Vote, api.Elect, api.Tell, api.Pre, api.Ack, api.Decide}
	if want := [...]int{1, 2, 3, 4, 5, 6, 7}; kinds != want {
		t.Error(kinds, want)
	}
}

func TestErrors(t *testing.T) {
	for i, c := range []struct {
		err  error
		text string
	}{
		{api.ErrText, "threefold: text"},
		{api.ErrBound, "threefold: bound"},
		{api.ErrShape, "threefold: shape"},
		{api.ErrNone, "threefold: none"},
		{api.ErrFull, "threefold: full"},
		{api.ErrOff, "threefold: off"},
		{api.ErrSum, "threefold: sum"},
		{api.ErrHeld, "threefold: held"},
		{api.ErrSplit, "threefold: split"},
	} {
		if c.err.Error() != c.text {
			t.Errorf("%q is not %q", c.err.Error(), c.text)
		}
		if code, at := plain.Code(c.err); code != i+1 || at != -1 {
			t.Errorf("%s: bare it has code %d, place %d", c.text, code, at)
		}
		fault := &api.Fault{At: 3, Err: c.err}
		if code, at := plain.Code(fault); code != i+1 || at != 3 || fault.Error() != c.text || !errors.Is(fault, c.err) {
			t.Errorf("%s: in a Fault it has code %d, place %d, text %q", c.text, code, at, fault.Error())
		}
	}
}

func TestCodesOfNoErrorAndOfOthers(t *testing.T) {
	if code, at := plain.Code(nil); code != 0 || at != -1 {
		t.Error(code, at)
	}
	if code, at := plain.Code(errors.New("threefold: text")); code != -1 || at != -1 {
		t.Error(code, at)
	}
}
