package site_test

import (
	"encoding/binary"
	"hash/crc32"
	"math"
	"math/rand"
	"testing"

	"threefold/api"
	"threefold/journal"
	"threefold/plate"
	"threefold/site"
)

const here = 2 // the site that is tried

var (
	phases  = []int{api.Nothing, api.Voted, api.Committed, api.Aborted, api.PreCommit, api.PreAbort}
	kinds   = []int{api.Ask, api.Vote, api.Elect, api.Tell, api.Pre, api.Ack, api.Decide}
	numbers = []int{0, 3, 4, 5, api.MaxAttempt}
)

func blank(t *testing.T) *plate.Plate {
	t.Helper()
	p, err := plate.New(api.MaxBytes)
	if err != nil {
		t.Fatal(err)
	}
	return p
}

// with is a plate that has a state of a deal.
func with(t *testing.T, deal int, st api.State) *plate.Plate {
	t.Helper()
	p := blank(t)
	j, err := journal.Open(p)
	if err != nil {
		t.Fatal(err)
	}
	same(t, "journal's Put", j.Put(deal, st), nil)
	return p
}

// slotted is a plate whose deal 0 has these in its second slot: also what no journal would write.
func slotted(t *testing.T, number uint32, st api.State) *plate.Plate {
	t.Helper()
	b := binary.BigEndian.AppendUint32(nil, number)
	b = append(b, byte(st.Phase))
	b = binary.BigEndian.AppendUint32(b, uint32(st.Promise))
	b = binary.BigEndian.AppendUint32(b, uint32(st.Attempt))
	b = binary.BigEndian.AppendUint32(b, crc32.ChecksumIEEE(b))
	p := blank(t)
	same(t, "slot", p.Write(api.Slot, string(append(b, 165))), nil)
	return p
}

func open(t *testing.T, p *plate.Plate) *site.Site {
	t.Helper()
	s, err := site.New(here, p)
	if err != nil || s == nil {
		t.Fatalf("New: %v, %v", s, err)
	}
	return s
}

// same asks for the bare error, not for one that wraps it.
func same(t *testing.T, what string, got, want error) {
	t.Helper()
	if got != want {
		t.Errorf("%s: %v, want %v", what, got, want)
	}
}

func has(t *testing.T, what string, s *site.Site, deal int, want api.State) {
	t.Helper()
	if st, err := s.State(deal); st != want || err != nil {
		t.Errorf("%s: deal %d: %v, %v, want %v", what, deal, st, err, want)
	}
}

// to is a frame from site 1 to the one that is tried.
func to(deal, kind, attempt, phase int) api.Frame {
	return api.Frame{From: 1, To: here, Deal: deal, Kind: kind, Attempt: attempt, S: api.State{Phase: phase}}
}

// hears asks for just this answer; one of kind 0: for none.
func hears(t *testing.T, s *site.Site, f, want api.Frame) {
	t.Helper()
	l, err := s.Hear(f)
	if err != nil {
		t.Errorf("Hear(%v): %v", f, err)
	} else if want.Kind == 0 && len(l) > 0 {
		t.Errorf("Hear(%v): %v, want no answer", f, l)
	} else if want.Kind != 0 && (len(l) != 1 || l[0] != want) {
		t.Errorf("Hear(%v): %v, want %v", f, l, want)
	}
}

// fails asks for the bare error, no answer, and a state that is as it was.
func fails(t *testing.T, s *site.Site, f api.Frame, want error, deal int, st api.State) {
	t.Helper()
	l, err := s.Hear(f)
	if len(l) > 0 || err != want {
		t.Errorf("Hear(%v): %v, %v, want %v", f, l, err, want)
	}
	has(t, "after an error", s, deal, st)
}

// answer to a frame that to made.
func answer(f api.Frame, kind int, yes bool, st api.State) api.Frame {
	return api.Frame{From: f.To, To: f.From, Deal: f.Deal, Kind: kind, Attempt: f.Attempt, Yes: yes, S: st}
}

// P60: a site, its states, what it refuses.

func TestNewSites(t *testing.T) {
	for id := range api.MaxSites {
		p := blank(t)
		s, err := site.New(id, p)
		if err != nil || s == nil {
			t.Fatalf("New(%d): %v, %v", id, s, err)
		}
		for deal := range api.MaxDeals {
			has(t, "new", s, deal, api.State{})
		}
		if p.Bytes() != blank(t).Bytes() {
			t.Errorf("New(%d) wrote", id)
		}
		st := api.State{Phase: api.Voted}
		hears(t, s, api.Frame{From: 6 - id, To: id, Kind: api.Ask}, api.Frame{From: id, To: 6 - id, Kind: api.Vote, Yes: true, S: st})
	}
}

func TestNewOfNone(t *testing.T) {
	small, _ := plate.New(2*api.MaxDeals*api.Slot - 1)
	off, both := blank(t), blank(t)
	off.Off()
	both.Off()
	dark, _ := plate.New(0)
	dark.Off()
	for i, c := range []struct {
		id   int
		p    *plate.Plate
		want error
	}{
		{-1, blank(t), api.ErrBound},
		{api.MaxSites, blank(t), api.ErrBound},
		{math.MinInt, blank(t), api.ErrBound},
		{math.MaxInt, blank(t), api.ErrBound},
		{api.MaxSites, nil, api.ErrBound},
		{-1, both, api.ErrBound},
		{0, nil, api.ErrShape},
		{0, small, api.ErrBound},
		{0, dark, api.ErrBound},
		{api.MaxSites - 1, off, api.ErrOff},
	} {
		if s, err := site.New(c.id, c.p); s != nil || err != c.want {
			t.Errorf("%d: New(%d): %v, %v, want %v", i, c.id, s, err, c.want)
		}
	}
}

func TestSmallestPlate(t *testing.T) {
	p, _ := plate.New(2 * api.MaxDeals * api.Slot)
	s := open(t, p)
	f := to(api.MaxDeals-1, api.Elect, 7, 0)
	hears(t, s, f, answer(f, api.Tell, true, api.State{Promise: 7}))
}

func TestStateIsTheJournals(t *testing.T) {
	st := api.State{Phase: api.PreAbort, Promise: 9, Attempt: 8}
	p := with(t, 4, st)
	s := open(t, p)
	for deal := range api.MaxDeals {
		want := api.State{}
		if deal == 4 {
			want = st
		}
		has(t, "opened", s, deal, want)
	}
	p.Off()
	has(t, "without power", s, 4, st)
	for _, deal := range []int{-1, api.MaxDeals, math.MinInt, math.MaxInt} {
		if got, err := s.State(deal); got != (api.State{}) || err != api.ErrBound {
			t.Errorf("State(%d): %v, %v", deal, got, err)
		}
	}
}

func TestRefuse(t *testing.T) {
	p := blank(t)
	s := open(t, p)
	for _, deal := range []int{-1, api.MaxDeals, math.MinInt, math.MaxInt} {
		same(t, "Refuse of no deal", s.Refuse(deal), api.ErrBound)
	}
	same(t, "Refuse", s.Refuse(0), nil)
	same(t, "Refuse", s.Refuse(5), nil)
	same(t, "Refuse again", s.Refuse(5), nil)
	has(t, "refused, not asked", s, 0, api.State{})
	if p.Bytes() != blank(t).Bytes() {
		t.Error("Refuse wrote")
	}
	for deal := range api.MaxDeals {
		st := api.State{Phase: api.Voted}
		if deal == 0 || deal == 5 {
			st.Phase = api.Aborted
		}
		f := to(deal, api.Ask, 0, 0)
		hears(t, s, f, answer(f, api.Vote, st.Phase == api.Voted, st))
		has(t, "asked", s, deal, st)
	}
}

func TestRefuseTooLate(t *testing.T) {
	for _, phase := range phases[1:] {
		st := api.State{Phase: phase, Promise: 2, Attempt: 1}
		s := open(t, with(t, 1, st))
		same(t, "Refuse", s.Refuse(1), nil)
		f := to(1, api.Ask, 0, 0)
		hears(t, s, f, answer(f, api.Vote, phase != api.Aborted, st))
		has(t, "asked", s, 1, st)
	}
}

func TestRefusesNoneOpenedAnew(t *testing.T) {
	p := blank(t)
	s := open(t, p)
	same(t, "Refuse", s.Refuse(3), nil)
	same(t, "Refuse", s.Refuse(4), nil)
	s.Hear(to(4, api.Ask, 0, 0))
	s = open(t, p)
	f, g := to(3, api.Ask, 0, 0), to(4, api.Ask, 0, 0)
	hears(t, s, f, answer(f, api.Vote, true, api.State{Phase: api.Voted}))
	hears(t, s, g, answer(g, api.Vote, false, api.State{Phase: api.Aborted}))
}

func TestRefuseWithoutPower(t *testing.T) {
	p := blank(t)
	s := open(t, p)
	p.Off()
	same(t, "Refuse", s.Refuse(1), nil)
	p.On()
	f := to(1, api.Ask, 0, 0)
	hears(t, s, f, answer(f, api.Vote, false, api.State{Phase: api.Aborted}))
}

// A promise ahead of the vote stays, and takes nothing from Refuse.
func TestRefuseBehindAPromise(t *testing.T) {
	s := open(t, blank(t))
	s.Hear(to(0, api.Elect, 6, 0))
	same(t, "Refuse", s.Refuse(0), nil)
	f := to(0, api.Ask, 0, 0)
	hears(t, s, f, answer(f, api.Vote, false, api.State{Phase: api.Aborted, Promise: 6}))
}

// P61: what a site answers.

func TestOneDealStepByStep(t *testing.T) {
	s := open(t, blank(t))
	for i, c := range []struct {
		kind, attempt, phase int
		answer               int
		yes                  bool
		st                   api.State
	}{
		{api.Elect, 0, 0, api.Tell, false, api.State{}},
		{api.Ask, 0, 0, api.Vote, true, api.State{Phase: api.Voted}},
		{api.Ask, 5, api.Aborted, api.Vote, true, api.State{Phase: api.Voted}},
		{api.Pre, 0, api.PreCommit, api.Ack, true, api.State{Phase: api.PreCommit}},
		{api.Elect, 4, 0, api.Tell, true, api.State{Phase: api.PreCommit, Promise: 4}},
		{api.Elect, 4, 0, api.Tell, false, api.State{Phase: api.PreCommit, Promise: 4}},
		{api.Elect, 3, 0, api.Tell, false, api.State{Phase: api.PreCommit, Promise: 4}},
		{api.Pre, 3, api.PreAbort, api.Ack, false, api.State{Phase: api.PreCommit, Promise: 4}},
		{api.Pre, 4, api.PreAbort, api.Ack, true, api.State{Phase: api.PreAbort, Promise: 4, Attempt: 4}},
		{api.Pre, 4, api.PreAbort, api.Ack, true, api.State{Phase: api.PreAbort, Promise: 4, Attempt: 4}},
		{api.Ask, 0, 0, api.Vote, true, api.State{Phase: api.PreAbort, Promise: 4, Attempt: 4}},
		{api.Pre, api.MaxAttempt, api.PreCommit, api.Ack, true, api.State{Phase: api.PreCommit, Promise: api.MaxAttempt, Attempt: api.MaxAttempt}},
		{api.Elect, api.MaxAttempt, 0, api.Tell, false, api.State{Phase: api.PreCommit, Promise: api.MaxAttempt, Attempt: api.MaxAttempt}},
		{api.Decide, 0, api.Committed, 0, false, api.State{Phase: api.Committed, Promise: api.MaxAttempt, Attempt: api.MaxAttempt}},
		{api.Decide, 9, api.Aborted, 0, false, api.State{Phase: api.Committed, Promise: api.MaxAttempt, Attempt: api.MaxAttempt}},
		{api.Pre, api.MaxAttempt, api.PreAbort, api.Ack, false, api.State{Phase: api.Committed, Promise: api.MaxAttempt, Attempt: api.MaxAttempt}},
		{api.Ask, 0, 0, api.Vote, true, api.State{Phase: api.Committed, Promise: api.MaxAttempt, Attempt: api.MaxAttempt}},
	} {
		f := to(5, c.kind, c.attempt, c.phase)
		want := api.Frame{}
		if c.answer > 0 {
			want = answer(f, c.answer, c.yes, c.st)
		}
		hears(t, s, f, want)
		has(t, "step", s, 5, c.st)
		if t.Failed() {
			t.Fatalf("step %d", i)
		}
	}
}

// behind says the chapter's rules again, each by itself: the state, the answer's kind (0: none), its Yes.
func behind(st api.State, refused bool, f api.Frame) (api.State, int, bool) {
	over := st.Phase == api.Committed || st.Phase == api.Aborted
	isPre := f.Kind == api.Pre && (f.S.Phase == api.PreCommit || f.S.Phase == api.PreAbort)
	isDecide := f.Kind == api.Decide && (f.S.Phase == api.Committed || f.S.Phase == api.Aborted)
	switch {
	case f.Kind == api.Ask && st.Phase == api.Nothing && refused:
		return api.State{Phase: api.Aborted, Promise: st.Promise, Attempt: st.Attempt}, api.Vote, false
	case f.Kind == api.Ask && st.Phase == api.Nothing:
		return api.State{Phase: api.Voted, Promise: st.Promise, Attempt: st.Attempt}, api.Vote, true
	case f.Kind == api.Ask:
		return st, api.Vote, st.Phase != api.Aborted
	case f.Kind == api.Elect && f.Attempt > st.Promise:
		return api.State{Phase: st.Phase, Promise: f.Attempt, Attempt: st.Attempt}, api.Tell, true
	case f.Kind == api.Elect:
		return st, api.Tell, false
	case isPre && f.Attempt >= st.Promise && !over:
		return api.State{Phase: f.S.Phase, Promise: f.Attempt, Attempt: f.Attempt}, api.Ack, true
	case isPre:
		return st, api.Ack, false
	case isDecide && !over:
		return api.State{Phase: f.S.Phase, Promise: st.Promise, Attempt: st.Attempt}, 0, false
	}
	return st, 0, false
}

// opened is a site that has this state of a deal, and refuses the deal or not.
func opened(t *testing.T, deal int, st api.State, refused bool) (*site.Site, *plate.Plate) {
	t.Helper()
	p := with(t, deal, st)
	s := open(t, p)
	if refused {
		same(t, "Refuse", s.Refuse(deal), nil)
	}
	return s, p
}

// each calls with every state, frame and refusal of a small pool. What a site does not go by is odd in all of the frames.
func each(t *testing.T, try func(st api.State, refused bool, f api.Frame)) {
	t.Helper()
	for _, phase := range phases {
		for _, promise := range numbers {
			for _, refused := range []bool{false, true} {
				for _, kind := range kinds {
					for _, attempt := range numbers {
						for _, said := range phases {
							f := api.Frame{From: 6, To: here, Deal: 3, Kind: kind, Attempt: attempt, Yes: refused, S: api.State{Phase: said, Promise: 7, Attempt: 11}}
							try(api.State{Phase: phase, Promise: promise, Attempt: 2}, refused, f)
						}
					}
				}
			}
		}
	}
}

func TestAllStatesHearAllFrames(t *testing.T) {
	each(t, func(st api.State, refused bool, f api.Frame) {
		s, p := opened(t, f.Deal, st, refused)
		after, kind, yes := behind(st, refused, f)
		want := api.Frame{}
		if kind > 0 {
			want = answer(f, kind, yes, after)
		}
		hears(t, s, f, want)
		has(t, "heard", s, f.Deal, after)
		has(t, "opened anew", open(t, p), f.Deal, after)
		for deal := range api.MaxDeals {
			if deal != f.Deal {
				has(t, "another deal", s, deal, api.State{})
			}
		}
	})
}

func TestFromItself(t *testing.T) {
	s := open(t, blank(t))
	hears(t, s, api.Frame{From: here, To: here, Deal: 2, Kind: api.Elect, Attempt: 8}, api.Frame{From: here, To: here, Deal: 2, Kind: api.Tell, Attempt: 8, Yes: true, S: api.State{Promise: 8}})
}

// P61: wrong frames. The state is one that every one of these would change, were it right.
func TestWrongFrames(t *testing.T) {
	good := to(1, api.Elect, 5, 0)
	change := func(c func(f *api.Frame)) api.Frame {
		f := good
		c(&f)
		return f
	}
	s := open(t, blank(t))
	for _, n := range []int{math.MinInt, -1, math.MaxInt} {
		for _, f := range []api.Frame{
			change(func(f *api.Frame) { f.From = n }),
			change(func(f *api.Frame) { f.To = n }),
			change(func(f *api.Frame) { f.Deal = n }),
			change(func(f *api.Frame) { f.Kind = n }),
			change(func(f *api.Frame) { f.Attempt = n }),
			change(func(f *api.Frame) { f.S.Phase = n }),
			change(func(f *api.Frame) { f.S.Promise = n }),
			change(func(f *api.Frame) { f.S.Attempt = n }),
		} {
			fails(t, s, f, api.ErrBound, 1, api.State{})
		}
	}
	for _, f := range []api.Frame{
		{},
		change(func(f *api.Frame) { f.From = api.MaxSites }),
		change(func(f *api.Frame) { f.To = api.MaxSites }),
		change(func(f *api.Frame) { f.Deal = api.MaxDeals }),
		change(func(f *api.Frame) { f.Kind = 0 }),
		change(func(f *api.Frame) { f.Kind = api.Decide + 1 }),
		change(func(f *api.Frame) { f.Attempt = api.MaxAttempt + 1 }),
		change(func(f *api.Frame) { f.S.Phase = api.PreAbort + 1 }),
		change(func(f *api.Frame) { f.To, f.S.Phase = here+1, api.PreAbort+1 }),
	} {
		fails(t, s, f, api.ErrBound, 1, api.State{})
	}
	for id := range api.MaxSites {
		if id != here {
			fails(t, s, change(func(f *api.Frame) { f.To = id }), api.ErrShape, 1, api.State{})
			fails(t, s, change(func(f *api.Frame) { f.From, f.To = here, id }), api.ErrShape, 1, api.State{})
		}
	}
	hears(t, s, good, answer(good, api.Tell, true, api.State{Promise: 5}))
}

// P61: the state is on the plate ahead of the answer: where it can't be put there is none.
func TestCutAnywhere(t *testing.T) {
	each(t, func(st api.State, refused bool, f api.Frame) {
		after, _, _ := behind(st, refused, f)
		if st == after || f.Attempt == 3 || st.Promise == 3 {
			return
		}
		for n := range api.Slot {
			s, p := opened(t, f.Deal, st, refused)
			same(t, "Cut", p.Cut(n), nil)
			fails(t, s, f, api.ErrOff, f.Deal, st)
			p.On()
			has(t, "opened anew", open(t, p), f.Deal, st)
			fails(t, s, f, api.ErrOff, f.Deal, st)
		}
		s, p := opened(t, f.Deal, st, refused)
		same(t, "Cut", p.Cut(api.Slot), nil)
		if _, err := s.Hear(f); err != nil {
			t.Errorf("Hear(%v) with power for all of the slot: %v", f, err)
		}
		has(t, "opened anew", open(t, p), f.Deal, after)
	})
}

// P61: a journal of no more use is told by every frame, also by one that changes nothing.
func TestUselessJournalSilencesAll(t *testing.T) {
	voted := api.State{Phase: api.Voted}
	p := with(t, 0, voted)
	s := open(t, p)
	p.Off()
	fails(t, s, to(1, api.Ask, 0, 0), api.ErrOff, 1, api.State{})
	for range 2 {
		for deal := range 2 {
			st := api.State{Phase: api.Voted * (1 - deal)}
			for _, kind := range kinds {
				for _, phase := range phases {
					fails(t, s, to(deal, kind, 4, phase), api.ErrOff, deal, st)
				}
			}
		}
		p.On()
	}
	fails(t, s, api.Frame{To: here}, api.ErrBound, 0, voted)
	fails(t, s, api.Frame{To: here + 1, Kind: api.Ask}, api.ErrShape, 0, voted)
	same(t, "Refuse", s.Refuse(0), nil)
	s = open(t, p)
	f := to(1, api.Ask, 0, 0)
	hears(t, s, f, answer(f, api.Vote, true, voted))
}

// P61: Put answers nil without power where nothing changes; so the site says again what it said.
func TestWithoutPowerSaysAgain(t *testing.T) {
	st := api.State{Phase: api.Voted, Promise: 4}
	p := with(t, 0, st)
	s := open(t, p)
	p.Off()
	ask, elect, pre := to(0, api.Ask, 0, 0), to(0, api.Elect, 4, 0), to(0, api.Pre, 3, api.PreCommit)
	hears(t, s, ask, answer(ask, api.Vote, true, st))
	hears(t, s, elect, answer(elect, api.Tell, false, st))
	hears(t, s, pre, answer(pre, api.Ack, false, st))
	hears(t, s, to(0, api.Tell, 4, 0), api.Frame{})
	fails(t, s, to(0, api.Elect, 5, 0), api.ErrOff, 0, st)
	fails(t, s, ask, api.ErrOff, 0, st)
}

func TestFullJournal(t *testing.T) {
	st := api.State{Phase: api.Voted, Promise: 4}
	s := open(t, slotted(t, math.MaxUint32, st))
	fails(t, s, to(0, api.Elect, 5, 0), api.ErrFull, 0, st)
	f := to(0, api.Elect, 4, 0)
	hears(t, s, f, answer(f, api.Tell, false, st))
}

// What no journal takes is told by Put's error; a frame that leaves nothing of it is heard.
func TestPlateBeyondTheBounds(t *testing.T) {
	beyond := api.State{Phase: api.Voted, Promise: 1 << 30}
	s := open(t, slotted(t, 1, beyond))
	for _, kind := range kinds {
		fails(t, s, to(0, kind, api.MaxAttempt, api.PreCommit), api.ErrBound, 0, beyond)
	}
	s = open(t, slotted(t, 1, api.State{Phase: 200, Promise: 3, Attempt: 1 << 30}))
	f := to(0, api.Pre, 3, api.PreCommit)
	hears(t, s, f, answer(f, api.Ack, true, api.State{Phase: api.PreCommit, Promise: 3, Attempt: 3}))
}

// P4: an answer is nobody else's.
func TestAnswersAreNew(t *testing.T) {
	s := open(t, blank(t))
	f := to(0, api.Ask, 0, 0)
	want := answer(f, api.Vote, true, api.State{Phase: api.Voted})
	one, _ := s.Hear(f)
	two, _ := s.Hear(f)
	one[0] = api.Frame{}
	if two[0] != want {
		t.Errorf("changed by another answer: %v", two)
	}
	hears(t, s, f, want)
	has(t, "changed answer", s, 0, api.State{Phase: api.Voted})
}

// P62: promises never fall, ends stay, whatever is heard, wherever power fails.

func kept(t *testing.T, was, is api.State) {
	t.Helper()
	if is.Promise < was.Promise {
		t.Fatalf("promise fell: %v, %v", was, is)
	}
	if (was.Phase == api.Committed || was.Phase == api.Aborted) && is.Phase != was.Phase {
		t.Fatalf("end left: %v, %v", was, is)
	}
}

func anyFrame(r *rand.Rand) api.Frame {
	return api.Frame{
		From: r.Intn(api.MaxSites), To: here, Deal: r.Intn(2), Kind: 1 + r.Intn(7), Attempt: r.Intn(12), Yes: r.Intn(2) == 0,
		S: api.State{Phase: r.Intn(6), Promise: r.Intn(12), Attempt: r.Intn(12)},
	}
}

func TestPromisesAndEndsAreKept(t *testing.T) {
	ends := map[int]int{}
	for seed := range int64(400) {
		r := rand.New(rand.NewSource(seed))
		p := blank(t)
		s := open(t, p)
		var was [2]api.State
		for range 60 {
			f := anyFrame(r)
			if f.Kind == api.Decide && r.Intn(6) > 0 {
				f.Kind = api.Pre
			}
			if r.Intn(10) == 0 {
				p.Cut(r.Intn(40))
			}
			if r.Intn(10) == 0 {
				s.Refuse(f.Deal)
			}
			l, err := s.Hear(f)
			if err != nil {
				p.On()
				s = open(t, p)
			}
			is, _ := s.State(f.Deal)
			kept(t, was[f.Deal], is)
			for _, a := range l {
				if a.S != is {
					t.Fatalf("answered %v, is %v", a, is)
				}
			}
			was[f.Deal] = is
		}
		ends[was[0].Phase]++
		ends[was[1].Phase]++
	}
	for _, end := range []int{api.Committed, api.Aborted} {
		if ends[end] < 50 {
			t.Errorf("phase %d was reached %d times only", end, ends[end])
		}
	}
}

func TestPromisesAndEndsOfAllStates(t *testing.T) {
	each(t, func(st api.State, refused bool, f api.Frame) {
		s, _ := opened(t, f.Deal, st, refused)
		s.Hear(f)
		is, _ := s.State(f.Deal)
		kept(t, st, is)
	})
}
