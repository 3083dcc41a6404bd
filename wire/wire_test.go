package wire_test

import (
	"encoding/binary"
	"hash/crc32"
	"math"
	"strings"
	"testing"

	"threefold/api"
	"threefold/wire"
)

const size = 22

var (
	plainest = api.Frame{Kind: api.Ask}
	some     = api.Frame{From: 2, To: 3, Deal: 4, Kind: api.Pre, Attempt: 0x0a0b0c, S: api.State{Phase: api.PreCommit, Promise: 0x010203, Attempt: 0x040506}}
	most     = api.Frame{From: 6, To: 6, Deal: 5, Kind: api.Decide, Attempt: api.MaxAttempt, Yes: true, S: api.State{Phase: api.PreAbort, Promise: api.MaxAttempt, Attempt: api.MaxAttempt}}
)

// raw is what the bytes of a frame say, whether they may or not.
type raw struct {
	from, to, deal, kind byte
	attempt              uint32
	yes, phase           byte
	promise, prepared    uint32
}

// text spells a frame out by the library's means, so that the program's own are held against others.
func (r raw) text() string {
	b := []byte{r.from, r.to, r.deal, r.kind}
	b = binary.BigEndian.AppendUint32(b, r.attempt)
	b = append(b, r.yes, r.phase)
	b = binary.BigEndian.AppendUint32(b, r.promise)
	b = binary.BigEndian.AppendUint32(b, r.prepared)
	return string(binary.LittleEndian.AppendUint32(b, crc32.ChecksumIEEE(b)))
}

func rawOf(f api.Frame) raw {
	r := raw{
		from: byte(f.From), to: byte(f.To), deal: byte(f.Deal), kind: byte(f.Kind), attempt: uint32(f.Attempt),
		phase: byte(f.S.Phase), promise: uint32(f.S.Promise), prepared: uint32(f.S.Attempt),
	}
	if f.Yes {
		r.yes = 1
	}
	return r
}

func encoded(t *testing.T, f api.Frame) string {
	t.Helper()
	s, err := wire.Encode(f)
	if err != nil || len(s) != size {
		t.Fatalf("Encode(%v): %q, %v", f, s, err)
	}
	return s
}

// fails asks for the bare error, and for a frame that is all 0 beside it.
func fails(t *testing.T, what, s string, want error) {
	t.Helper()
	if f, err := wire.Decode(s); f != (api.Frame{}) || err != want {
		t.Errorf("%s: Decode(%q): %v, %v, want %v", what, s, f, err, want)
	}
}

// field is a number of a frame, with its bounds as the chapter names them.
type field struct {
	name        string
	least, most int
	of          func(f *api.Frame) *int
}

func fields() []field {
	return []field{
		{"From", 0, 6, func(f *api.Frame) *int { return &f.From }},
		{"To", 0, 6, func(f *api.Frame) *int { return &f.To }},
		{"Deal", 0, 5, func(f *api.Frame) *int { return &f.Deal }},
		{"Kind", 1, 7, func(f *api.Frame) *int { return &f.Kind }},
		{"Attempt", 0, 1 << 20, func(f *api.Frame) *int { return &f.Attempt }},
		{"S.Promise", 0, 1 << 20, func(f *api.Frame) *int { return &f.S.Promise }},
		{"S.Attempt", 0, 1 << 20, func(f *api.Frame) *int { return &f.S.Attempt }},
		{"S.Phase", 0, 5, func(f *api.Frame) *int { return &f.S.Phase }},
	}
}

// P40: what a frame is.

func TestBoundsOfEachField(t *testing.T) {
	for _, x := range fields() {
		for _, base := range []api.Frame{plainest, some, most} {
			for _, n := range []int{x.least, x.least + 1, (x.least + x.most) / 2, x.most - 1, x.most} {
				f := base
				*x.of(&f) = n
				if err := wire.Check(f); err != nil {
					t.Errorf("%s %d: Check answers %v", x.name, n, err)
				}
				if s := encoded(t, f); s != rawOf(f).text() {
					t.Errorf("%s %d: %q, want %q", x.name, n, s, rawOf(f).text())
				}
			}
			// Beside the nearest: numbers whose lowest bytes would be a good one.
			for _, n := range []int{x.least - 1, x.most + 1, x.least - 256, 1<<24 + x.most, 1<<32 + x.most, -1<<32 + x.most, math.MinInt + x.most, math.MinInt, math.MaxInt} {
				f := base
				*x.of(&f) = n
				if err := wire.Check(f); err != api.ErrBound {
					t.Errorf("%s %d: Check answers %v", x.name, n, err)
				}
				if s, err := wire.Encode(f); s != "" || err != api.ErrBound {
					t.Errorf("%s %d: Encode answers %q, %v", x.name, n, s, err)
				}
			}
		}
	}
}

func TestNoFrame(t *testing.T) {
	if err := wire.Check(api.Frame{}); err != api.ErrBound {
		t.Errorf("all 0: %v", err)
	}
	if s, err := wire.Encode(api.Frame{}); s != "" || err != api.ErrBound {
		t.Errorf("all 0: %q, %v", s, err)
	}
	all := api.Frame{From: -1, To: -1, Deal: -1, Kind: -1, Attempt: -1, S: api.State{Phase: -1, Promise: -1, Attempt: -1}}
	if err := wire.Check(all); err != api.ErrBound {
		t.Errorf("all below: %v", err)
	}
}

func TestByHand(t *testing.T) {
	for _, c := range []struct {
		f    api.Frame
		want string
	}{
		{plainest, "\x00\x00\x00\x01\x00\x00\x00\x00\x00\x00\x00\x00\x00\x00\x00\x00\x00\x00\xa5\x14\xe0\xde"},
		{some, "\x02\x03\x04\x05\x00\x0a\x0b\x0c\x00\x04\x00\x01\x02\x03\x00\x04\x05\x06\x66\x25\xda\xf5"},
		{most, "\x06\x06\x05\x07\x00\x10\x00\x00\x01\x05\x00\x10\x00\x00\x00\x10\x00\x00\xd9\xa1\xa1\x45"},
	} {
		if s, err := wire.Encode(c.f); s != c.want || err != nil {
			t.Errorf("Encode(%v): %q, %v, want %q", c.f, s, err, c.want)
		}
		if f, err := wire.Decode(c.want); f != c.f || err != nil {
			t.Errorf("Decode(%q): %v, %v, want %v", c.want, f, err, c.f)
		}
	}
}

func TestOtherLengths(t *testing.T) {
	for _, f := range []api.Frame{plainest, some, most} {
		s := encoded(t, f)
		for n := range size {
			fails(t, "the first bytes", s[:n], api.ErrText)
			fails(t, "the last bytes", s[size-n:], api.ErrText)
		}
		for _, x := range []string{s + "\x00", "\x00" + s, s + s, strings.Repeat(s, 1000), s[:18] + "\x00" + s[18:]} {
			fails(t, "too many", x, api.ErrText)
		}
	}
}

func TestLengthAheadOfTheSum(t *testing.T) {
	b := make([]byte, 17)
	fails(t, "one field byte too few, with its sum", string(binary.LittleEndian.AppendUint32(b, crc32.ChecksumIEEE(b))), api.ErrText)
	b = make([]byte, 19)
	fails(t, "one field byte too many, with its sum", string(binary.LittleEndian.AppendUint32(b, crc32.ChecksumIEEE(b))), api.ErrText)
}

func TestOtherSums(t *testing.T) {
	s := encoded(t, some)
	fails(t, "the highest byte first", s[:18]+string([]byte{s[21], s[20], s[19], s[18]}), api.ErrSum)
	fails(t, "none", s[:18]+"\x00\x00\x00\x00", api.ErrSum)
	fails(t, "all bits", s[:18]+"\xff\xff\xff\xff", api.ErrSum)
	fails(t, "not turned at the end", s[:18]+string([]byte{^s[18], ^s[19], ^s[20], ^s[21]}), api.ErrSum)
	fails(t, "another frame's", s[:18]+encoded(t, most)[18:], api.ErrSum)
	fails(t, "all 0", strings.Repeat("\x00", size), api.ErrSum)
}

func TestYesIsZeroOrOne(t *testing.T) {
	for _, f := range []api.Frame{plainest, some, most} {
		for yes := range 256 {
			r := rawOf(f)
			r.yes = byte(yes)
			if yes > 1 {
				fails(t, "yes", r.text(), api.ErrText)
				continue
			}
			f.Yes = yes == 1
			if g, err := wire.Decode(r.text()); g != f || err != nil {
				t.Errorf("yes %d: %v, %v", yes, g, err)
			}
		}
	}
}

func TestDecodeOutOfBounds(t *testing.T) {
	const top = api.MaxAttempt
	for _, base := range []api.Frame{plainest, some, most} {
		for _, x := range []func(r *raw){
			func(r *raw) { r.from = 7 }, func(r *raw) { r.from = 255 },
			func(r *raw) { r.to = 7 }, func(r *raw) { r.to = 128 },
			func(r *raw) { r.deal = 6 }, func(r *raw) { r.deal = 255 },
			func(r *raw) { r.kind = 0 }, func(r *raw) { r.kind = 8 }, func(r *raw) { r.kind = 255 },
			func(r *raw) { r.attempt = top + 1 }, func(r *raw) { r.attempt = 1 << 31 }, func(r *raw) { r.attempt = math.MaxUint32 },
			func(r *raw) { r.phase = 6 }, func(r *raw) { r.phase = 255 },
			func(r *raw) { r.promise = top + 1 }, func(r *raw) { r.promise = 1 << 24 }, func(r *raw) { r.promise = math.MaxUint32 },
			func(r *raw) { r.prepared = top + 1 }, func(r *raw) { r.prepared = 1 << 31 }, func(r *raw) { r.prepared = math.MaxUint32 },
		} {
			r := rawOf(base)
			x(&r)
			fails(t, "out of bounds", r.text(), api.ErrBound)
			r.yes = 2
			fails(t, "Yes ahead of bounds", r.text(), api.ErrText)
			s := r.text()
			fails(t, "the sum ahead of Yes", s[:21]+string([]byte{s[21] ^ 128}), api.ErrSum)
			fails(t, "the length ahead of the sum", s[:21], api.ErrText)
		}
	}
}

// P41: what is encoded is decoded; a burst is seen.

// each frame of all fields but the attempts, which go through their edges at paces of their own.
func each(do func(f api.Frame)) {
	edges := []int{0, 1, 127, 128, 255, 256, 65535, 65536, 0x010203, api.MaxAttempt - 1, api.MaxAttempt}
	n := 0
	for from := range api.MaxSites {
		for to := range api.MaxSites {
			for deal := range api.MaxDeals {
				for kind := api.Ask; kind <= api.Decide; kind++ {
					for phase := api.Nothing; phase <= api.PreAbort; phase++ {
						for _, yes := range []bool{false, true} {
							s := api.State{Phase: phase, Promise: edges[n/11%11], Attempt: edges[n/121%11]}
							do(api.Frame{From: from, To: to, Deal: deal, Kind: kind, Attempt: edges[n%11], Yes: yes, S: s})
							n++
						}
					}
				}
			}
		}
	}
}

func TestEncodedIsDecoded(t *testing.T) {
	count := 0
	frames := map[string]api.Frame{}
	each(func(f api.Frame) {
		count++
		s := encoded(t, f)
		if s != rawOf(f).text() {
			t.Fatalf("%v: %q, want %q", f, s, rawOf(f).text())
		}
		if g, err := wire.Decode(s); g != f || err != nil {
			t.Fatalf("%v: decoded %v, %v", f, g, err)
		}
		if g, is := frames[s]; is {
			t.Fatalf("%v and %v: the same bytes", f, g)
		}
		frames[s] = f
	})
	if count != 7*7*6*7*6*2 {
		t.Errorf("%d frames", count)
	}
}

func TestManyAttemptsAreDecoded(t *testing.T) {
	for n := 0; n <= api.MaxAttempt; n += 37 {
		for i := range 3 {
			f := some
			*[]*int{&f.Attempt, &f.S.Promise, &f.S.Attempt}[i] = n
			if g, err := wire.Decode(encoded(t, f)); g != f || err != nil {
				t.Fatalf("%v: decoded %v, %v", f, g, err)
			}
		}
	}
}

// turn the bits of a burst: bit k of it is bit at+k of the text, the bits of a byte from the lowest on.
func turn(s string, at int, burst uint64) string {
	b := []byte(s)
	for k := at; burst > 0; k, burst = k+1, burst>>1 {
		b[k/8] ^= byte(burst&1) << (k % 8)
	}
	return string(b)
}

// bursts of that many bits, the first and the last of which are turned: all of them if they are few, else some.
func bursts(length int) []uint64 {
	if length == 1 {
		return []uint64{1}
	}
	ends := uint64(1) | 1<<(length-1)
	inner := uint64(1)<<(length-2) - 1
	var out []uint64
	if length <= 8 {
		for x := range inner + 1 {
			out = append(out, ends|x<<1)
		}
		return out
	}
	out = append(out, ends, ends|inner<<1, ends|0x5555555555555555&(inner<<1), ends|0xaaaaaaaaaaaaaaaa&(inner<<1))
	x := uint64(length)
	for range 40 {
		x = x*6364136223846793005 + 1442695040888963407
		out = append(out, ends|(x>>20&inner)<<1)
	}
	// The sum's own pattern, cut to this length, is the likeliest to go unseen.
	for _, p := range []uint64{0x1db710641, 0x104c11db7, 0xedb88320, 0x04c11db7} {
		out = append(out, ends|p&(inner<<1), ends|p>>1&(inner<<1))
	}
	return out
}

func TestBurstsAreSeen(t *testing.T) {
	for _, f := range []api.Frame{plainest, some, most} {
		s := encoded(t, f)
		for length := 1; length <= 32; length++ {
			for _, burst := range bursts(length) {
				for at := 0; at+length <= 8*size; at++ {
					if g, err := wire.Decode(turn(s, at, burst)); g != (api.Frame{}) || err != api.ErrSum {
						t.Fatalf("%v: burst %b from bit %d: %v, %v", f, burst, at, g, err)
					}
				}
			}
		}
	}
}

func TestEachBitOfEachFrameIsSeen(t *testing.T) {
	n := 0
	each(func(f api.Frame) {
		if n++; n%7 > 0 {
			return
		}
		s := encoded(t, f)
		for at := range 8 * size {
			if g, err := wire.Decode(turn(s, at, 1)); g != (api.Frame{}) || err != api.ErrSum {
				t.Fatalf("%v: bit %d: %v, %v", f, at, g, err)
			}
		}
	})
}

// P1: no text makes it panic, and what it answers is a frame that has just this text.
func FuzzDecode(f *testing.F) {
	for _, r := range []raw{rawOf(plainest), rawOf(some), rawOf(most), {yes: 2}, {from: 255, promise: math.MaxUint32}} {
		f.Add(r.text())
	}
	f.Add("")
	f.Fuzz(func(t *testing.T, s string) {
		for _, x := range []string{s, summed(s)} {
			g, err := wire.Decode(x)
			if err != nil {
				if g != (api.Frame{}) {
					t.Errorf("%q: %v beside %v", x, g, err)
				}
				continue
			}
			if back, err := wire.Encode(g); back != x || err != nil {
				t.Errorf("%q: %v: encoded %q, %v", x, g, back, err)
			}
		}
	})
}

// summed makes the sum fit, so that what lies behind it is tried too.
func summed(s string) string {
	if len(s) < 18 {
		return s
	}
	return string(binary.LittleEndian.AppendUint32([]byte(s[:18]), crc32.ChecksumIEEE([]byte(s[:18]))))
}
