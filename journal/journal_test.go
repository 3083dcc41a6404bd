package journal_test

import (
	"encoding/binary"
	"hash/crc32"
	"math"
	"strings"
	"testing"

	"threefold/api"
	"threefold/journal"
	"threefold/plate"
)

const all = 2 * api.MaxDeals * api.Slot

// slot spells a slot out by the library's means, so that the journal's own are held against others.
func slot(number uint32, s api.State) string {
	b := binary.BigEndian.AppendUint32(nil, number)
	b = append(b, byte(s.Phase))
	b = binary.BigEndian.AppendUint32(b, uint32(s.Promise))
	b = binary.BigEndian.AppendUint32(b, uint32(s.Attempt))
	b = binary.BigEndian.AppendUint32(b, crc32.ChecksumIEEE(b))
	return string(append(b, 165))
}

// from is a plate whose deal has these two slots ("" leaves one all 0).
func from(t *testing.T, deal int, first, second string) *plate.Plate {
	t.Helper()
	p := blank(t)
	same(t, "first slot", p.Write(2*deal*api.Slot, first), nil)
	same(t, "second slot", p.Write((2*deal+1)*api.Slot, second), nil)
	return p
}

func blank(t *testing.T) *plate.Plate {
	t.Helper()
	p, err := plate.New(all)
	if err != nil {
		t.Fatal(err)
	}
	return p
}

func open(t *testing.T, p *plate.Plate) *journal.Journal {
	t.Helper()
	j, err := journal.Open(p)
	if err != nil || j == nil {
		t.Fatalf("Open: %v, %v", j, err)
	}
	return j
}

// same asks for the bare error, not for one that wraps it.
func same(t *testing.T, what string, got, want error) {
	t.Helper()
	if got != want {
		t.Errorf("%s: %v, want %v", what, got, want)
	}
}

func has(t *testing.T, what string, j *journal.Journal, deal int, want api.State) {
	t.Helper()
	if s, err := j.Get(deal); s != want || err != nil {
		t.Errorf("%s: deal %d: %v, %v, want %v", what, deal, s, err, want)
	}
}

// stands asks for the slots of a deal, byte by byte.
func stands(t *testing.T, what string, p *plate.Plate, deal int, first, second string) {
	t.Helper()
	at := 2 * deal * api.Slot
	b := p.Bytes()
	if b[at:at+api.Slot] != first || b[at+api.Slot:at+2*api.Slot] != second {
		t.Errorf("%s: %q %q, want %q %q", what, b[at:at+api.Slot], b[at+api.Slot:at+2*api.Slot], first, second)
	}
}

var (
	none = strings.Repeat("\x00", api.Slot)
	some = api.State{Phase: 4, Promise: 300, Attempt: 2}
	more = api.State{Phase: 5, Promise: 1 << 20, Attempt: 77}
)

// P30: the form of a slot.

func TestSlotByHand(t *testing.T) {
	p := blank(t)
	same(t, "Put", open(t, p).Put(0, api.State{Phase: 1, Promise: 0x010203, Attempt: 0x0a0b0c}), nil)
	want := "\x00\x00\x00\x01\x01\x00\x01\x02\x03\x00\x0a\x0b\x0c\xbc\x07\xf9\xa6\xa5"
	stands(t, "spelt out", p, 0, none, want)
}

func TestSlotsOfAllDeals(t *testing.T) {
	p := blank(t)
	j := open(t, p)
	var want strings.Builder
	for deal := range api.MaxDeals {
		a, b := api.State{Phase: deal + 1, Promise: 1000 * deal}, api.State{Phase: 255 - deal, Attempt: api.MaxAttempt - deal}
		same(t, "first Put", j.Put(deal, a), nil)
		same(t, "second Put", j.Put(deal, b), nil)
		want.WriteString(slot(2, b) + slot(1, a))
	}
	if p.Bytes() != want.String() {
		t.Errorf("%q, want %q", p.Bytes(), want.String())
	}
}

func TestStatesOfAllKinds(t *testing.T) {
	var before api.State
	p := blank(t)
	j := open(t, p)
	number := uint32(0)
	for _, phase := range []int{0, 1, 2, 5, 6, 127, 128, 165, 255} {
		for _, promise := range []int{0, 1, 127, 128, 255, 256, 65535, 65536, api.MaxAttempt - 1, api.MaxAttempt} {
			for _, attempt := range []int{0, 1, 128, 256, 65536, api.MaxAttempt} {
				s := api.State{Phase: phase, Promise: promise, Attempt: attempt}
				same(t, "Put", j.Put(3, s), nil)
				has(t, "put", j, 3, s)
				has(t, "opened again", open(t, p), 3, s)
				if s == before {
					continue
				}
				number++
				two := [2]string{none, none}
				two[number%2] = slot(number, s)
				if number > 1 {
					two[1-number%2] = slot(number-1, before)
				}
				stands(t, "slots", p, 3, two[0], two[1])
				before = s
			}
		}
	}
	if number != 9*10*6-1 {
		t.Errorf("%d numbers", number)
	}
}

func TestNotHeld(t *testing.T) {
	for deal := range api.MaxDeals {
		good := slot(5, some)
		has(t, "held", open(t, from(t, deal, none, good)), deal, some)
		for at := range api.Slot {
			for bit := range 8 {
				b := []byte(good)
				b[at] ^= 1 << bit
				has(t, "a bit turned", open(t, from(t, deal, none, string(b))), deal, api.State{})
				has(t, "a bit turned, the other held", open(t, from(t, deal, slot(2, more), string(b))), deal, more)
			}
		}
		for _, x := range []byte{0, 1, 90, 164, 166, 255} {
			b := good[:17] + string([]byte{x})
			has(t, "another last byte", open(t, from(t, deal, none, b)), deal, api.State{})
		}
	}
}

func TestNumbersNotHeld(t *testing.T) {
	for _, x := range []struct{ first, second string }{
		{none, none},
		{slot(0, some), none},
		{none, slot(0, some)},
		{slot(1, some), none},
		{none, slot(2, some)},
		{slot(3, some), slot(2, more)},
		{slot(math.MaxUint32, some), slot(math.MaxUint32-1, more)},
		{strings.Repeat("\xff", api.Slot), strings.Repeat("\xa5", api.Slot)},
	} {
		p := from(t, 1, x.first, x.second)
		has(t, "not held", open(t, p), 1, api.State{})
		same(t, "Put", open(t, p).Put(1, more), nil)
		stands(t, "number 1 is next", p, 1, x.first, slot(1, more))
	}
}

func TestSlotBeyondTheBounds(t *testing.T) {
	s := api.State{Phase: 255, Promise: math.MaxUint32, Attempt: api.MaxAttempt + 1}
	p := from(t, 0, none, slot(1, s))
	j := open(t, p)
	has(t, "a slot says what it says", j, 0, s)
	same(t, "Put of it", j.Put(0, s), api.ErrBound)
	same(t, "Put over it", j.Put(0, some), nil)
	stands(t, "over it", p, 0, slot(2, some), slot(1, s))
}

// P31: opening, and what there is.

func TestTheGreaterNumber(t *testing.T) {
	for _, x := range []struct {
		even, odd uint32
		first     bool
	}{
		{2, 1, true}, {2, 3, false}, {4, 3, true}, {256, 255, true}, {256, 257, false}, {2, 99, false}, {98, 1, true},
		{1 << 24, 1<<24 - 1, true}, {1 << 31, 1<<31 - 1, true}, {1 << 31, 1<<31 + 1, false},
		{math.MaxUint32 - 1, math.MaxUint32, false}, {math.MaxUint32 - 1, 1, true}, {2, math.MaxUint32, false},
	} {
		want := more
		if x.first {
			want = some
		}
		for deal := range api.MaxDeals {
			p := from(t, deal, slot(x.even, some), slot(x.odd, more))
			j := open(t, p)
			has(t, "the greater one", j, deal, want)
			for other := range api.MaxDeals {
				if other != deal {
					has(t, "another deal", j, other, api.State{})
				}
			}
		}
	}
}

func TestOnlyOneHeld(t *testing.T) {
	has(t, "first", open(t, from(t, 2, slot(8, some), none)), 2, some)
	has(t, "second", open(t, from(t, 2, none, slot(7, some))), 2, some)
	has(t, "a greater one that is not held", open(t, from(t, 2, slot(8, some), slot(9, more)[:17]+"\x00")), 2, some)
}

func TestOpenWritesNothing(t *testing.T) {
	for _, size := range []int{all, all + 1, api.MaxBytes} {
		b := strings.Repeat("\xa5", size)
		p, _ := plate.From(b)
		same(t, "Cut", p.Cut(0), nil)
		j := open(t, p)
		has(t, "of nothing", j, 5, api.State{})
		if p.Bytes() != b || !p.Power() {
			t.Errorf("size %d: %q, power %v", size, p.Bytes(), p.Power())
		}
	}
}

func TestOpenErrors(t *testing.T) {
	fails := func(what string, p *plate.Plate, want error) {
		t.Helper()
		j, err := journal.Open(p)
		if j != nil || err != want {
			t.Errorf("%s: %v, %v, want %v", what, j, err, want)
		}
	}
	fails("nil", nil, api.ErrShape)
	for _, size := range []int{0, 1, api.Slot, all / 2, all - 1} {
		p, _ := plate.New(size)
		fails("too few bytes", p, api.ErrBound)
		p.Off()
		fails("too few bytes, no power", p, api.ErrBound)
	}
	p := blank(t)
	p.Off()
	fails("no power", p, api.ErrOff)
	p.On()
	open(t, p)
}

func TestBytesBehindTheDealsStay(t *testing.T) {
	p, _ := plate.From(strings.Repeat("\xa5", api.MaxBytes))
	j := open(t, p)
	for deal := range api.MaxDeals {
		for i := range 3 {
			same(t, "Put", j.Put(deal, api.State{Phase: i + 1}), nil)
		}
	}
	if p.Bytes()[all:] != strings.Repeat("\xa5", api.MaxBytes-all) {
		t.Errorf("%q", p.Bytes()[all:])
	}
}

func TestGetErrors(t *testing.T) {
	j := open(t, from(t, 0, none, slot(1, some)))
	for _, deal := range []int{-1, -2, api.MaxDeals, api.MaxDeals + 1, 256, math.MinInt, math.MaxInt} {
		if s, err := j.Get(deal); s != (api.State{}) || err != api.ErrBound {
			t.Errorf("Get(%d): %v, %v", deal, s, err)
		}
	}
}

func TestGetWithoutPower(t *testing.T) {
	p := from(t, 4, none, slot(1, some))
	j := open(t, p)
	p.Off()
	has(t, "no power", j, 4, some)
	if _, err := j.Get(6); err != api.ErrBound {
		t.Error(err)
	}
}

// P32: putting.

func TestPutBounds(t *testing.T) {
	p := blank(t)
	j := open(t, p)
	same(t, "Put", j.Put(0, some), nil)
	before := p.Bytes()
	for _, off := range []bool{false, true} {
		if off {
			p.Off()
		}
		for _, deal := range []int{-1, api.MaxDeals, 100, math.MinInt, math.MaxInt} {
			same(t, "no such deal", j.Put(deal, some), api.ErrBound)
		}
		for _, x := range []int{-1, 256, 257, 256 + 4, math.MinInt, math.MaxInt} {
			same(t, "phase", j.Put(0, api.State{Phase: x, Promise: 300, Attempt: 2}), api.ErrBound)
		}
		for _, x := range []int{-1, api.MaxAttempt + 1, 1<<32 + 300, 1 << 32, math.MinInt, math.MaxInt} {
			same(t, "promise", j.Put(0, api.State{Phase: 4, Promise: x, Attempt: 2}), api.ErrBound)
			same(t, "attempt", j.Put(0, api.State{Phase: 4, Promise: 300, Attempt: x}), api.ErrBound)
		}
	}
	if p.Bytes() != before {
		t.Errorf("%q", p.Bytes())
	}
	has(t, "as ahead", j, 0, some)
	p.On()
	same(t, "of use yet", j.Put(0, more), nil)
}

func TestPutOfWhatIsThere(t *testing.T) {
	p := from(t, 1, slot(2, some), slot(1, more))
	j := open(t, p)
	before := p.Bytes()
	for _, power := range []string{"on", "cut", "off"} {
		if power == "cut" {
			same(t, "Cut", p.Cut(0), nil)
		}
		if power == "off" {
			p.Off()
		}
		same(t, power, j.Put(1, some), nil)
		same(t, power, j.Put(0, api.State{}), nil)
		if p.Bytes() != before || p.Power() != (power != "off") {
			t.Errorf("%s: %q, power %v", power, p.Bytes(), p.Power())
		}
	}
	p.On()
	same(t, "of use yet", j.Put(1, more), nil)
	stands(t, "the next number", p, 1, slot(2, some), slot(3, more))
}

func TestAlikeButForOneField(t *testing.T) {
	s := api.State{Phase: 4, Promise: 9, Attempt: 9}
	for i, next := range []api.State{{Phase: 5, Promise: 9, Attempt: 9}, {Phase: 4, Promise: 10, Attempt: 9}, {Phase: 4, Promise: 9, Attempt: 8}} {
		p := from(t, 0, none, slot(1, s))
		same(t, "Put", open(t, p).Put(0, next), nil)
		stands(t, string(rune('0'+i)), p, 0, slot(2, next), slot(1, s))
	}
}

func TestBackToNothing(t *testing.T) {
	p := blank(t)
	j := open(t, p)
	same(t, "Put", j.Put(0, some), nil)
	same(t, "Put of all 0", j.Put(0, api.State{}), nil)
	stands(t, "it is written", p, 0, slot(2, api.State{}), slot(1, some))
	has(t, "opened again", open(t, p), 0, api.State{})
	same(t, "Put", open(t, p).Put(0, more), nil)
	stands(t, "and counted", p, 0, slot(2, api.State{}), slot(3, more))
}

func TestNumbersGoOn(t *testing.T) {
	for _, n := range []uint32{1, 2, 255, 256, 65535, 1<<24 - 1, 1<<31 - 1, 1 << 31, math.MaxUint32 - 1} {
		two := [2]string{none, none}
		two[n%2] = slot(n, some)
		p := from(t, 5, two[0], two[1])
		j := open(t, p)
		same(t, "Put", j.Put(5, more), nil)
		two[1-n%2] = slot(n+1, more)
		stands(t, "the other slot", p, 5, two[0], two[1])
	}
}

func TestFull(t *testing.T) {
	p := from(t, 2, slot(math.MaxUint32-1, more), none)
	j := open(t, p)
	same(t, "the last number", j.Put(2, some), nil)
	stands(t, "the last number", p, 2, slot(math.MaxUint32-1, more), slot(math.MaxUint32, some))
	before := p.Bytes()
	for _, j := range []*journal.Journal{j, open(t, p)} {
		p.On()
		same(t, "full", j.Put(2, more), api.ErrFull)
		same(t, "bounds first", j.Put(2, api.State{Phase: -1}), api.ErrBound)
		same(t, "what is there", j.Put(2, some), nil)
		p.Off()
		same(t, "full, no power", j.Put(2, more), api.ErrFull)
		p.On()
		has(t, "as ahead", j, 2, some)
		if p.Bytes() != before {
			t.Errorf("%q", p.Bytes())
		}
		same(t, "of use yet", j.Put(3, api.State{Phase: 1}), nil)
		before = p.Bytes()
	}
}

func TestNoMoreUse(t *testing.T) {
	for _, n := range []int{-1, 0, 1, 10, 17} {
		p := from(t, 1, none, slot(math.MaxUint32, some))
		j := open(t, p)
		if n < 0 {
			p.Off()
		} else {
			same(t, "Cut", p.Cut(n), nil)
		}
		same(t, "Put", j.Put(0, more), api.ErrOff)
		if p.Power() {
			t.Error(n, "power")
		}
		for _, on := range []bool{false, true} {
			if on {
				p.On()
			}
			before := p.Bytes()
			same(t, "again", j.Put(0, more), api.ErrOff)
			same(t, "another", j.Put(3, some), api.ErrOff)
			same(t, "what is there", j.Put(1, some), api.ErrOff)
			same(t, "all 0", j.Put(2, api.State{}), api.ErrOff)
			same(t, "no such deal", j.Put(-1, some), api.ErrOff)
			same(t, "out of bounds", j.Put(0, api.State{Phase: 256}), api.ErrOff)
			same(t, "full", j.Put(1, more), api.ErrOff)
			if p.Bytes() != before {
				t.Errorf("%d: %q, want %q", n, p.Bytes(), before)
			}
			has(t, "as ahead", j, 0, api.State{})
			has(t, "as ahead", j, 1, some)
		}
		same(t, "another journal", open(t, p).Put(0, more), nil)
	}
}

// steps are the bytes of a plate after each byte that a Put writes, the order of them told by ever later cuts.
func steps(t *testing.T, b string, deal int, s api.State) []string {
	t.Helper()
	var out []string
	for n := 0; ; n++ {
		p, _ := plate.From(b)
		j := open(t, p)
		same(t, "Cut", p.Cut(n), nil)
		err := j.Put(deal, s)
		out = append(out, p.Bytes())
		if err == nil || n > api.Slot+1 {
			return out
		}
		same(t, "cut", err, api.ErrOff)
	}
}

func TestTheOrderOfBytes(t *testing.T) {
	marked := strings.Repeat("z", 17)
	for _, x := range []struct {
		what, first, second string
		side                int
		number              uint32
	}{
		{"onto none", none, none, 1, 1},
		{"onto a slot without a last byte", marked + "\x00", slot(7, some), 0, 8},
		{"onto a slot that is held", slot(6, api.State{Phase: 9}), slot(7, some), 0, 8},
		{"onto a second slot that is held", slot(8, some), slot(7, api.State{Phase: 9}), 1, 9},
		{"onto a last byte that is another", slot(8, some), marked + "\x01", 1, 9},
	} {
		p := from(t, 2, x.first, x.second)
		fresh := slot(x.number, more)
		at := (4 + x.side) * api.Slot
		old := p.Bytes()
		want := []string{old}
		if old[at+17] != 0 {
			old = old[:at+17] + "\x00" + old[at+18:]
			want = append(want, old)
		}
		for n := 1; n <= api.Slot; n++ {
			want = append(want, old[:at]+fresh[:n]+old[at+n:])
		}
		got := steps(t, p.Bytes(), 2, more)
		if len(got) != len(want) {
			t.Fatalf("%s: %d steps, want %d", x.what, len(got), len(want))
		}
		for i := range want {
			if got[i] != want[i] {
				t.Errorf("%s: step %d: %q, want %q", x.what, i, got[i], want[i])
			}
		}
	}
}

// Bytes that are written again with what they had cost power too: a Put takes 18 of them, 19 with a last byte to be made 0.
func TestWhatAPutCosts(t *testing.T) {
	p := blank(t)
	j := open(t, p)
	for i, cost := range []int{18, 18, 19, 19, 19} {
		same(t, "Cut", p.Cut(cost), nil)
		same(t, "just enough", j.Put(0, api.State{Promise: i + 1}), nil)
		if !p.Power() {
			t.Error(i, "no power")
		}
		same(t, "none left", p.Write(0, p.Bytes()[:1]), api.ErrOff)
		p.On()
	}
}

// P33: wherever power is cut.

func TestCutsOfAHistory(t *testing.T) {
	const puts = 24
	deal := func(i int) int { return i * 5 % 3 }
	state := func(i int) api.State {
		return api.State{Phase: i % 6, Promise: i * 43690 % api.MaxAttempt, Attempt: i + 1}
	}
	for n := range puts*(api.Slot+1) + 1 {
		p := blank(t)
		j := open(t, p)
		same(t, "Cut", p.Cut(n), nil)
		var ahead [api.MaxDeals]api.State
		i := 0
		for ; i < puts && j.Put(deal(i), state(i)) == nil; i++ {
			ahead[deal(i)] = state(i)
		}
		p.On()
		j = open(t, p)
		for d := range api.MaxDeals {
			s, err := j.Get(d)
			if err != nil || s != ahead[d] && (i == puts || d != deal(i) || s != state(i)) {
				t.Errorf("cut %d, put %d, deal %d: %v, %v, want %v", n, i, d, s, err, ahead[d])
			}
		}
		if i == puts {
			return
		}
	}
	t.Error("the history has no end")
}

func TestManyCuts(t *testing.T) {
	a, b, c := api.State{Phase: 1}, api.State{Phase: 4, Promise: 3, Attempt: 3}, api.State{Phase: 5, Promise: 8, Attempt: 8}
	for first := range 20 {
		for second := range 20 {
			for third := range 20 {
				p := from(t, 0, slot(2, b), slot(1, a))
				now := b
				for i, n := range []int{first, second, third} {
					next := []api.State{c, a, b}[i]
					p.On()
					j := open(t, p)
					p.Cut(n)
					err := j.Put(0, next)
					p.On()
					s, _ := open(t, p).Get(0)
					if s != next && (s != now || err == nil) {
						t.Fatalf("cuts %d %d %d: put %d: %v, %v, ahead %v", first, second, third, i, s, err, now)
					}
					now = s
				}
			}
		}
	}
}

// P4: what was answered, or handed in, is not shared.

func TestNothingShared(t *testing.T) {
	p := blank(t)
	j := open(t, p)
	s := some
	same(t, "Put", j.Put(0, s), nil)
	s.Phase = 9
	got, _ := j.Get(0)
	got.Promise = 1
	has(t, "as it was put", j, 0, some)
}

func TestDealsApart(t *testing.T) {
	p := blank(t)
	j := open(t, p)
	var want [api.MaxDeals]api.State
	for i := range 60 {
		deal := i * 7 % api.MaxDeals
		want[deal] = api.State{Phase: i, Promise: i * i}
		same(t, "Put", j.Put(deal, want[deal]), nil)
		for d, s := range want {
			has(t, "put", j, d, s)
			has(t, "opened again", open(t, p), d, s)
		}
	}
}
