package world_test

import (
	"math/rand"
	"reflect"
	"slices"
	"testing"

	"threefold/api"
	"threefold/lead"
	"threefold/plate"
	"threefold/site"
	"threefold/weights"
	"threefold/world"
)

func anyWeights(r *rand.Rand) []int {
	w := make([]int, 1+r.Intn(api.MaxSites))
	for {
		for s := range w {
			w[s] = []int{0, 1, 1, 1, 2, 5}[r.Intn(6)]
		}
		if weights.Check(w) == nil {
			return w
		}
	}
}

// call is one call of a world, by a kind and two numbers.
type call struct{ kind, a, b int }

const (
	deliver = iota
	drop
	twice
	begin
	tick
	refuse
	joinLink
	breakLink
	cut
	down
	rise
)

// places in this list are how likely a call is.
var likely = slices.Concat(
	slices.Repeat([]int{deliver}, 70), slices.Repeat([]int{drop}, 2), slices.Repeat([]int{twice}, 3), slices.Repeat([]int{begin}, 6), slices.Repeat([]int{tick}, 3),
	[]int{refuse, joinLink, joinLink, joinLink, joinLink, breakLink, cut, down, rise, rise, rise, rise})

func anyCall(r *rand.Rand, sites, deals, flying int) call {
	c := call{kind: likely[r.Intn(len(likely))]}
	switch c.kind {
	case deliver, drop, twice:
		// The first ones most of the time, so that plays come to their ends.
		c.a = r.Intn(flying + 1)
		if r.Intn(2) == 0 {
			c.a = 0
		}
	case joinLink, breakLink:
		c.a, c.b = r.Intn(sites), r.Intn(sites)
	case cut:
		c.a, c.b = r.Intn(sites), r.Intn(60)
	default:
		c.a, c.b = r.Intn(sites), r.Intn(deals)
	}
	return c
}

// a world, or what stands for one.
type player interface {
	Begin(s, deal int) error
	Refuse(s, deal int) error
	Tick(s int) error
	Deliver(at int) error
	Drop(at int) error
	Twice(at int) error
	Link(a, b int, whole bool) error
	Cut(s, n int) error
	Down(s int) error
	Up(s int) error
}

func (c call) on(x player) error {
	switch c.kind {
	case deliver:
		return x.Deliver(c.a)
	case drop:
		return x.Drop(c.a)
	case twice:
		return x.Twice(c.a)
	case begin:
		return x.Begin(c.a, c.b)
	case tick:
		return x.Tick(c.a)
	case refuse:
		return x.Refuse(c.a, c.b)
	case joinLink:
		return x.Link(c.a, c.b, true)
	case breakLink:
		return x.Link(c.a, c.b, false)
	case cut:
		return x.Cut(c.a, c.b)
	case down:
		return x.Down(c.a)
	}
	return x.Up(c.a)
}

// model says the chapter's rules again: whatever it can it keeps otherwise than a world does, and finds anew.
type model struct {
	w      []int
	plates []*plate.Plate
	sites  []*site.Site
	up     []bool
	leads  map[[2]int]*lead.Lead // by site and deal
	whole  [api.MaxSites][api.MaxSites]bool
	fly    []api.Frame
	known  map[[2]int]int // ends by site and deal, as far as they are told
	events []world.Event
}

func newModel(w []int) *model {
	m := &model{w: w, leads: map[[2]int]*lead.Lead{}, known: map[[2]int]int{}}
	for s := range w {
		p, _ := plate.New(api.MaxBytes)
		m.plates = append(m.plates, p)
		m.sites = append(m.sites, nil)
		m.up = append(m.up, true)
		m.open(s)
		for to := range w {
			m.whole[s][to] = true
		}
	}
	return m
}

func (m *model) open(s int) {
	m.plates[s].On()
	m.sites[s], _ = site.New(s, m.plates[s])
}

func (m *model) off(s int) {
	m.plates[s].Off()
	m.up[s] = false
	for d := range api.MaxDeals {
		delete(m.leads, [2]int{s, d})
	}
}

// plated is what a site would have that is opened from these bytes now.
func (m *model) plated(s, d int) api.State {
	p, _ := plate.From(m.plates[s].Bytes())
	opened, _ := site.New(s, p)
	st, _ := opened.State(d)
	return st
}

func (m *model) tell(s int) {
	for d := range api.MaxDeals {
		phase := m.plated(s, d).Phase
		if (phase == api.Committed || phase == api.Aborted) && m.known[[2]int{s, d}] != phase {
			m.known[[2]int{s, d}] = phase
			m.events = append(m.events, world.Event{Site: s, Deal: d, Phase: phase})
		}
	}
}

func (m *model) wrong(sites []int, deals ...int) bool {
	for _, s := range sites {
		if s < 0 || s >= len(m.w) {
			return true
		}
	}
	for _, d := range deals {
		if d < 0 || d >= api.MaxDeals {
			return true
		}
	}
	return false
}

func (m *model) Begin(s, d int) error {
	if m.wrong([]int{s}, d) {
		return api.ErrBound
	}
	if !m.up[s] {
		return api.ErrOff
	}
	for other := range m.w {
		if m.plated(other, d) != (api.State{}) || m.leads[[2]int{other, d}] != nil {
			return api.ErrHeld
		}
	}
	l, _ := lead.Begin(s, d, m.w)
	m.leads[[2]int{s, d}] = l
	for to := range m.w {
		m.fly = append(m.fly, api.Frame{From: s, To: to, Deal: d, Kind: api.Ask})
	}
	return nil
}

func (m *model) Refuse(s, d int) error {
	if m.wrong([]int{s}, d) {
		return api.ErrBound
	}
	if !m.up[s] {
		return api.ErrOff
	}
	return m.sites[s].Refuse(d)
}

func (m *model) Tick(s int) error {
	if m.wrong([]int{s}) {
		return api.ErrBound
	}
	if !m.up[s] {
		return api.ErrOff
	}
	for d := range api.MaxDeals {
		st := m.plated(s, d)
		if st == (api.State{}) || !m.up[s] {
			continue
		}
		if st.Phase == api.Committed || st.Phase == api.Aborted {
			for to := range m.w {
				m.fly = append(m.fly, api.Frame{From: s, To: to, Deal: d, Kind: api.Decide, Attempt: st.Promise, S: api.State{Phase: st.Phase}})
			}
			continue
		}
		m.try(s, d, st.Promise)
	}
	return nil
}

func (m *model) try(s, d, promise int) {
	attempt := promise + 1
	for attempt%len(m.w) != s || m.leads[[2]int{s, d}] != nil && attempt <= m.leads[[2]int{s, d}].Seen() {
		attempt++
	}
	if attempt > api.MaxAttempt {
		return
	}
	l, err := m.sites[s].Hear(api.Frame{From: s, To: s, Deal: d, Kind: api.Elect, Attempt: attempt})
	if err != nil {
		m.off(s)
		return
	}
	m.leads[[2]int{s, d}], _ = lead.Try(s, d, m.w, attempt)
	for to := range m.w {
		if to != s {
			m.fly = append(m.fly, api.Frame{From: s, To: to, Deal: d, Kind: api.Elect, Attempt: attempt})
		}
	}
	m.fly = append(m.fly, m.leads[[2]int{s, d}].Hear(l[0])...)
}

func (m *model) Deliver(at int) error {
	if at < 0 || at >= len(m.fly) {
		return api.ErrNone
	}
	f := m.fly[at]
	m.Drop(at)
	if !m.up[f.To] || !m.whole[f.From][f.To] && f.From != f.To {
		return nil
	}
	if f.Kind == api.Vote || f.Kind == api.Tell || f.Kind == api.Ack {
		if l := m.leads[[2]int{f.To, f.Deal}]; l != nil {
			m.fly = append(m.fly, l.Hear(f)...)
		}
		return nil
	}
	l, err := m.sites[f.To].Hear(f)
	if err != nil {
		m.off(f.To)
		return nil
	}
	m.fly = append(m.fly, l...)
	m.tell(f.To)
	return nil
}

func (m *model) Drop(at int) error {
	if at < 0 || at >= len(m.fly) {
		return api.ErrNone
	}
	m.fly = slices.Concat(m.fly[:at], m.fly[at+1:])
	return nil
}

func (m *model) Twice(at int) error {
	if at < 0 || at >= len(m.fly) {
		return api.ErrNone
	}
	m.fly = slices.Concat(m.fly[:at+1], m.fly[at:])
	return nil
}

func (m *model) Link(a, b int, whole bool) error {
	if m.wrong([]int{a, b}) {
		return api.ErrBound
	}
	m.whole[a][b], m.whole[b][a] = whole, whole
	return nil
}

func (m *model) Cut(s, n int) error {
	if m.wrong([]int{s}) || n < 0 {
		return api.ErrBound
	}
	if !m.up[s] {
		return api.ErrOff
	}
	return m.plates[s].Cut(n)
}

func (m *model) Down(s int) error {
	if m.wrong([]int{s}) {
		return api.ErrBound
	}
	if !m.up[s] {
		return api.ErrOff
	}
	m.off(s)
	return nil
}

func (m *model) Up(s int) error {
	if m.wrong([]int{s}) {
		return api.ErrBound
	}
	if m.up[s] {
		return api.ErrHeld
	}
	m.up[s] = true
	m.open(s)
	m.tell(s)
	return nil
}

func (m *model) look() view {
	v := view{States: make([][api.MaxDeals]api.State, len(m.w)), Leads: make([][api.MaxDeals]string, len(m.w)), Up: m.up}
	for s := range m.w {
		for d := range api.MaxDeals {
			v.States[s][d] = m.plated(s, d)
			v.Leads[s][d] = "none"
			if l := m.leads[[2]int{s, d}]; l != nil {
				v.Leads[s][d] = l.State()
			}
		}
	}
	v.Flying = append([]api.Frame{}, m.fly...)
	v.Events = append([]world.Event{}, m.events...)
	return v
}

// wrongCall has numbers at and outside of the bounds.
func wrongCall(r *rand.Rand, flying int) call {
	n := func() int {
		return []int{-1, 0, 1, 2, 5, 6, 7, flying - 1, flying, flying + 1}[r.Intn(10)]
	}
	return call{kind: r.Intn(rise + 1), a: n(), b: n()}
}

// TestAgainstTheModel: P80 to P84.
func TestAgainstTheModel(t *testing.T) {
	for seed := range int64(120) {
		r := rand.New(rand.NewSource(seed))
		w := anyWeights(r)
		x, m := made(t, w...), newModel(w)
		var calls []call
		for range 250 {
			c := anyCall(r, len(w), 1+r.Intn(api.MaxDeals), len(m.fly))
			if r.Intn(10) == 0 {
				c = wrongCall(r, len(m.fly))
			}
			calls = append(calls, c)
			got, want := c.on(x), c.on(m)
			if got != want {
				t.Fatalf("weights %v, calls %v: %v, want %v", w, calls, got, want)
			}
			if is, wants := look(t, x, len(w)), m.look(); !reflect.DeepEqual(is, wants) {
				t.Fatalf("weights %v, calls %v:\n%v, want\n%v", w, calls, is, wants)
			}
		}
	}
}

// watch sees to it that what P85 says is always so is so, from call to call.
type watch struct {
	*world.World
	sites int
	voted map[[2]int]struct{} // site and deal
}

func watched(t *testing.T, w []int) *watch {
	return &watch{World: made(t, w...), sites: len(w), voted: map[[2]int]struct{}{}}
}

func (v *watch) well(t *testing.T) {
	t.Helper()
	for d := range api.MaxDeals {
		ends := [api.PreAbort + 1]int{}
		for s := range v.sites {
			st, err := v.State(s, d)
			done(t, err)
			ends[st.Phase]++
			if st.Phase == api.Voted {
				v.voted[[2]int{s, d}] = struct{}{}
			}
		}
		if ends[api.Committed] == 0 {
			continue
		}
		if ends[api.Aborted] > 0 {
			t.Fatalf("deal %d: %d have committed, %d aborted", d, ends[api.Committed], ends[api.Aborted])
		}
		for s := range v.sites {
			if _, is := v.voted[[2]int{s, d}]; !is {
				t.Fatalf("deal %d is committed, and site %d had not voted for it", d, s)
			}
		}
	}
}

func in(set, s int) bool { return set>>s&1 == 1 }

// gather has a set up and whole, without cuts ahead, and the others cut off.
func (v *watch) gather(t *testing.T, set int) {
	t.Helper()
	for a := range v.sites {
		if in(set, a) {
			v.Down(a)
			done(t, v.Up(a))
		}
		for b := range a {
			if in(set, a) != in(set, b) {
				done(t, v.Link(a, b, false))
			} else if in(set, a) {
				done(t, v.Link(a, b, true))
			}
		}
	}
}

// knows is whether one of a set knows a deal.
func (v *watch) knows(set, d int) bool {
	for s := range v.sites {
		if st, err := v.State(s, d); in(set, s) && err == nil && st != (api.State{}) {
			return true
		}
	}
	return false
}

// rounds is the two of P85.
func (v *watch) rounds(t *testing.T, set int) {
	t.Helper()
	for range 2 {
		for s := range v.sites {
			if in(set, s) {
				done(t, v.Tick(s))
			}
		}
		for v.Deliver(0) == nil {
			v.well(t)
		}
	}
}

// ended is whether each deal that one of a set knows is decided at all of it.
func (v *watch) ended(t *testing.T, set int) {
	t.Helper()
	for d := range api.MaxDeals {
		if !v.knows(set, d) {
			continue
		}
		for s := range v.sites {
			if st, err := v.State(s, d); in(set, s) && (err != nil || st.Phase != api.Committed && st.Phase != api.Aborted) {
				t.Fatalf("set %b: site %d, deal %d: %v, %v", set, s, d, st, err)
			}
		}
	}
}

func quorums(t *testing.T, w []int) []int {
	t.Helper()
	var l []int
	for set := range 1 << len(w) {
		if is, err := weights.Enough(w, set); is && err == nil {
			l = append(l, set)
		}
	}
	return l
}

// TestOneEndWhateverHappens: P85, by plays with fixed seeds.
func TestOneEndWhateverHappens(t *testing.T) {
	count := [api.PreAbort + 1]int{}
	for seed := range int64(1000) {
		r := rand.New(rand.NewSource(seed))
		w := anyWeights(r)
		v := watched(t, w)
		deals := 1 + r.Intn(api.MaxDeals)
		for range 1 + r.Intn(2) {
			for range r.Intn(200) {
				anyCall(r, len(w), deals, len(v.Flying())).on(v)
				v.well(t)
			}
			l := quorums(t, w)
			set := l[r.Intn(len(l))]
			v.gather(t, set)
			v.rounds(t, set)
			v.ended(t, set)
		}
		everyone := 1<<len(w) - 1
		v.gather(t, everyone)
		v.rounds(t, everyone)
		v.ended(t, everyone)
		for _, e := range v.Events() {
			count[e.Phase]++
		}
	}
	if count[api.Committed] < 500 || count[api.Aborted] < 500 {
		t.Errorf("these plays show little: %v", count)
	}
}

// TestOneEndWhereverALeadFalls: P85, by each place in a deal's way at which each site may fall, for good or for a while.
func TestOneEndWhereverALeadFalls(t *testing.T) {
	for _, w := range [][]int{{1, 1, 1}, {2, 1, 1}, {1, 0, 1, 1}, {1, 1, 1, 1, 1}} {
		for falls := range w {
			for refuses := range len(w) + 1 {
				for frames := range 5*len(w) + 1 {
					oneFalls(t, w, falls, refuses, frames)
				}
			}
		}
	}
}

func oneFalls(t *testing.T, w []int, falls, refuses, frames int) {
	t.Helper()
	v := watched(t, w)
	if refuses < len(w) {
		done(t, v.Refuse(refuses, 0))
	}
	done(t, v.Begin(0, 0))
	for range frames {
		v.Deliver(0)
		v.well(t)
	}
	done(t, v.Down(falls))
	everyone := 1<<len(w) - 1
	rest := everyone &^ (1 << falls)
	if is, err := weights.Enough(w, rest); is && err == nil {
		v.rounds(t, rest)
		v.ended(t, rest)
	}
	done(t, v.Up(falls))
	v.rounds(t, everyone)
	v.ended(t, everyone)
}

// TestOneEndWhereverPowerIsCut: P85, by each byte at which power may fail.
func TestOneEndWhereverPowerIsCut(t *testing.T) {
	for s := range 3 {
		for bytes := range 80 {
			v := watched(t, []int{1, 1, 1})
			done(t, v.Begin(0, 0), v.Cut(s, bytes))
			for v.Deliver(0) == nil {
				v.well(t)
			}
			if is, err := v.Is(s); !is && err == nil {
				v.rounds(t, 0b111&^(1<<s))
				v.ended(t, 0b111&^(1<<s))
				done(t, v.Up(s))
			}
			v.gather(t, 0b111)
			v.rounds(t, 0b111)
			v.ended(t, 0b111)
		}
	}
}

// TestTooFewDecideNothing: what a set prepares that is no quorum is no end, or the others could come to the other one.
func TestTooFewDecideNothing(t *testing.T) {
	for _, w := range [][]int{{1, 1}, {1, 1, 1, 1}, {2, 1, 1}, {1, 1, 1, 1, 1}} {
		for set := range 1 << len(w) {
			if is, err := weights.Enough(w, set); is || err != nil {
				continue
			}
			v := watched(t, w)
			done(t, v.Begin(0, 0))
			for range 3 * len(w) {
				done(t, v.Deliver(0))
			}
			lose(v.World)
			v.gather(t, set)
			v.rounds(t, set)
			for s := range w {
				if st, err := v.State(s, 0); st.Phase != api.PreCommit || err != nil {
					t.Errorf("weights %v, set %b: site %d: %v, %v", w, set, s, st, err)
				}
			}
		}
	}
}
