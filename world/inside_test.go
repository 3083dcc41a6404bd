package world

import (
	"slices"
	"testing"

	"threefold/api"
	"threefold/journal"
)

// TestPutThatWasCutAndIsThere: no cut of a plate leaves a Put whole that answered ErrOff, but a journal may; so it is put behind the site's back.
func TestPutThatWasCutAndIsThere(t *testing.T) {
	x, err := New([]int{1, 1, 1})
	if err != nil {
		t.Fatal(err)
	}
	if err := x.Down(1); err != nil {
		t.Fatal(err)
	}
	n := x.nodes[1]
	n.On()
	j, err := journal.Open(n.Plate)
	if err != nil {
		t.Fatal(err)
	}
	want := [api.MaxDeals]api.State{1: {Phase: api.Committed}, 2: {Phase: api.PreAbort, Promise: 4, Attempt: 4}, 3: {Phase: api.Aborted, Promise: 2}, 5: {Promise: 7}}
	for deal, st := range want {
		if err := j.Put(deal, st); err != nil {
			t.Fatal(err)
		}
	}
	n.Off()
	told := func(what string) {
		t.Helper()
		for deal, st := range want {
			if got, err := x.State(1, deal); got != st || err != nil {
				t.Errorf("%s: State(1, %d): %v, %v, want %v", what, deal, got, err, st)
			}
		}
	}
	told("down")
	if l := x.Events(); len(l) != 0 {
		t.Errorf("events of one that is down: %v", l)
	}
	for _, deal := range []int{1, 2, 3, 5} {
		if err := x.Begin(0, deal); err != api.ErrHeld {
			t.Errorf("Begin of deal %d: %v", deal, err)
		}
	}
	for range 2 {
		if err := x.Up(1); err != nil {
			t.Fatal(err)
		}
		told("up")
		if l := x.Events(); !slices.Equal(l, []Event{{1, 1, api.Committed}, {1, 3, api.Aborted}}) {
			t.Errorf("events: %v", l)
		}
		if err := x.Down(1); err != nil {
			t.Fatal(err)
		}
	}
}

func TestPlatesOfMaxBytes(t *testing.T) {
	x, err := New([]int{1, 0})
	if err != nil {
		t.Fatal(err)
	}
	for s, n := range x.nodes {
		if b := n.Bytes(); b != string(make([]byte, api.MaxBytes)) {
			t.Errorf("site %d has %q", s, b)
		}
	}
}

// TestEventsAreBounded fills them by hand: a site ends a deal once, so a world alone has never so many.
func TestEventsAreBounded(t *testing.T) {
	x, err := New([]int{1})
	if err != nil {
		t.Fatal(err)
	}
	x.events = make([]Event, api.MaxEvents-1)
	for deal := range 3 {
		if err := x.Begin(0, deal); err != nil {
			t.Fatal(err)
		}
		for x.Deliver(0) == nil {
		}
	}
	if l := x.Events(); len(l) != api.MaxEvents || l[api.MaxEvents-1] != (Event{0, 0, api.Committed}) {
		t.Errorf("%d events, the last one %v", len(l), l[len(l)-1])
	}
}
