package plate_test

import (
	"math"
	"strings"
	"testing"

	"threefold/api"
	"threefold/plate"
)

func fresh(t *testing.T, b string) *plate.Plate {
	t.Helper()
	p, err := plate.From(b)
	if err != nil || p == nil {
		t.Fatalf("From(%q): %v, %v", b, p, err)
	}
	return p
}

// same asks for the bare error, not for one that wraps it.
func same(t *testing.T, what string, got, want error) {
	t.Helper()
	if got != want {
		t.Errorf("%s: %v, want %v", what, got, want)
	}
}

func holds(t *testing.T, what string, p *plate.Plate, bytes string, power bool) {
	t.Helper()
	if p.Bytes() != bytes || p.Power() != power {
		t.Errorf("%s: %q, power %v, want %q, power %v", what, p.Bytes(), p.Power(), bytes, power)
	}
}

// P20: new plates.

func TestNew(t *testing.T) {
	for _, size := range []int{0, 1, 2, 17, 216, api.MaxBytes - 1, api.MaxBytes} {
		p, err := plate.New(size)
		if err != nil || p == nil {
			t.Fatalf("New(%d): %v, %v", size, p, err)
		}
		holds(t, "new", p, strings.Repeat("\x00", size), true)
		same(t, "a write of all of it", p.Write(0, strings.Repeat("x", size)), nil)
		same(t, "a write of one more", p.Write(0, strings.Repeat("x", size+1)), api.ErrBound)
		holds(t, "written", p, strings.Repeat("x", size), true)
	}
}

func TestNewOutOfBounds(t *testing.T) {
	for _, size := range []int{-1, -2, -512, math.MinInt, api.MaxBytes + 1, 1 << 40, math.MaxInt} {
		p, err := plate.New(size)
		if p != nil || err != api.ErrBound {
			t.Errorf("New(%d): %v, %v", size, p, err)
		}
	}
}

func TestFrom(t *testing.T) {
	every := make([]byte, 256)
	for i := range every {
		every[i] = byte(i)
	}
	for _, b := range []string{"", "a", "\x00", "abc", "\xff\xfe\x80", "né", string(every), strings.Repeat("q", api.MaxBytes)} {
		p := fresh(t, b)
		holds(t, "from", p, b, true)
		got, err := p.Read(0, len(b))
		if got != b || err != nil {
			t.Errorf("Read of all: %q, %v", got, err)
		}
		same(t, "one more byte", p.Write(len(b), "x"), api.ErrBound)
	}
	for _, n := range []int{api.MaxBytes + 1, api.MaxBytes + 2, 1 << 16} {
		p, err := plate.From(strings.Repeat("q", n))
		if p != nil || err != api.ErrBound {
			t.Errorf("From %d bytes: %v, %v", n, p, err)
		}
	}
}

// P20: what is read and written, all places of small plates.

func TestReadEveryPlace(t *testing.T) {
	for _, b := range []string{"", "a", "abcde"} {
		p := fresh(t, b)
		for at := -3; at <= len(b)+3; at++ {
			for n := -3; n <= len(b)+3; n++ {
				want, wantErr := "", error(api.ErrBound)
				if at >= 0 && n >= 0 && at+n <= len(b) {
					want, wantErr = b[at:at+n], nil
				}
				got, err := p.Read(at, n)
				if got != want || err != wantErr {
					t.Errorf("%q: Read(%d, %d): %q, %v", b, at, n, got, err)
				}
			}
		}
		holds(t, "read only", p, b, true)
	}
}

func TestWriteEveryPlace(t *testing.T) {
	const old = "abcde"
	for at := -3; at <= len(old)+3; at++ {
		for n := 0; n <= len(old)+3; n++ {
			p := fresh(t, old)
			b := "12345678"[:n]
			want, wantErr := old, error(api.ErrBound)
			if at >= 0 && at+n <= len(old) {
				want, wantErr = old[:at]+b+old[at+n:], nil
			}
			same(t, "write", p.Write(at, b), wantErr)
			holds(t, "written", p, want, true)
		}
	}
}

func TestFarPlaces(t *testing.T) {
	far := []int{math.MinInt, math.MinInt + 1, -1, 7, 1 << 32, math.MaxInt - 1, math.MaxInt}
	p := fresh(t, "abcdef")
	for _, at := range far {
		same(t, "write of a byte", p.Write(at, "x"), api.ErrBound)
		same(t, "write of none", p.Write(at, ""), api.ErrBound)
		for _, n := range far {
			if got, err := p.Read(at, n); got != "" || err != api.ErrBound {
				t.Errorf("Read(%d, %d): %q, %v", at, n, got, err)
			}
		}
		if got, err := p.Read(at, 0); got != "" || err != api.ErrBound {
			t.Errorf("Read(%d, 0): %q, %v", at, got, err)
		}
		if at != -1 {
			if got, err := p.Read(1, at); got != "" || err != api.ErrBound {
				t.Errorf("Read(1, %d): %q, %v", at, got, err)
			}
		}
	}
	holds(t, "untouched", p, "abcdef", true)
}

func TestBytesAreBytes(t *testing.T) {
	p := fresh(t, "......")
	same(t, "write", p.Write(1, "é\xff\x00"), nil)
	holds(t, "no runes", p, ".\xc3\xa9\xff\x00.", true)
	if got, err := p.Read(2, 2); got != "\xa9\xff" || err != nil {
		t.Errorf("Read: %q, %v", got, err)
	}
}

// P20, P21 with P3: ErrBound is told ahead of ErrOff, and nothing comes with an error.

func TestOrderOfErrors(t *testing.T) {
	p := fresh(t, "abc")
	p.Off()
	for _, x := range []struct {
		at, n int
		want  error
	}{{0, 1, api.ErrOff}, {0, 3, api.ErrOff}, {0, 0, api.ErrOff}, {3, 0, api.ErrOff}, {3, 1, api.ErrBound}, {0, 4, api.ErrBound}, {-1, 1, api.ErrBound}, {0, -1, api.ErrBound}} {
		if got, err := p.Read(x.at, x.n); got != "" || err != x.want {
			t.Errorf("Read(%d, %d): %q, %v", x.at, x.n, got, err)
		}
		if x.n >= 0 {
			same(t, "Write", p.Write(x.at, "xxxx"[:x.n]), x.want)
		}
	}
	same(t, "Cut below 0", p.Cut(-1), api.ErrBound)
	same(t, "Cut far below 0", p.Cut(math.MinInt), api.ErrBound)
	same(t, "Cut", p.Cut(0), api.ErrOff)
	same(t, "Cut", p.Cut(math.MaxInt), api.ErrOff)
	holds(t, "untouched", p, "abc", false)
}

// P21: a cut in one write, at each byte of it.

func TestCutWithinAWrite(t *testing.T) {
	const old, b = "abcdef", "1234"
	for n := 0; n <= len(b)+2; n++ {
		p := fresh(t, old)
		same(t, "Cut", p.Cut(n), nil)
		holds(t, "cut ahead", p, old, true)
		done, wantErr := min(n, len(b)), error(nil)
		if n < len(b) {
			wantErr = api.ErrOff
		}
		same(t, "Write", p.Write(1, b), wantErr)
		holds(t, "written", p, old[:1]+b[:done]+old[1+done:], wantErr == nil)
	}
}

func TestJustAsMany(t *testing.T) {
	p := fresh(t, "abcd")
	same(t, "Cut", p.Cut(2), nil)
	same(t, "Write", p.Write(0, "12"), nil)
	for range 3 {
		same(t, "a write of no bytes", p.Write(4, ""), nil)
	}
	if got, err := p.Read(0, 4); got != "12cd" || err != nil {
		t.Errorf("Read: %q, %v", got, err)
	}
	same(t, "a write out of bounds", p.Write(4, "x"), api.ErrBound)
	holds(t, "power till the next byte", p, "12cd", true)
	same(t, "the next byte", p.Write(2, "3"), api.ErrOff)
	holds(t, "power is gone", p, "12cd", false)
	same(t, "a write of no bytes", p.Write(0, ""), api.ErrOff)
	if got, err := p.Read(0, 4); got != "" || err != api.ErrOff {
		t.Errorf("Read: %q, %v", got, err)
	}
}

func TestCutOverManyWrites(t *testing.T) {
	p := fresh(t, "......")
	same(t, "Cut", p.Cut(4), nil)
	same(t, "first", p.Write(0, "ab"), nil)
	same(t, "out of bounds", p.Write(5, "xy"), api.ErrBound)
	same(t, "second", p.Write(1, "c"), nil)
	same(t, "third", p.Write(2, "def"), api.ErrOff)
	holds(t, "four bytes", p, "acd...", false)
	same(t, "fourth", p.Write(0, "z"), api.ErrOff)
	holds(t, "still", p, "acd...", false)
}

// A byte that is there already is written all the same.
func TestSameBytesCount(t *testing.T) {
	p := fresh(t, "aaaa")
	same(t, "Cut", p.Cut(2), nil)
	same(t, "Write", p.Write(0, "aaab"), api.ErrOff)
	holds(t, "two bytes", p, "aaaa", false)
}

func TestSecondCut(t *testing.T) {
	for first := range 5 {
		for between := range first + 1 {
			for second := range 5 {
				p := fresh(t, "........")
				same(t, "first", p.Cut(first), nil)
				same(t, "between", p.Write(0, "xxxx"[:between]), nil)
				same(t, "wrong", p.Cut(-1), api.ErrBound)
				same(t, "second", p.Cut(second), nil)
				same(t, "just as many", p.Write(0, "yyyy"[:second]), nil)
				holds(t, "just as many", p, p.Bytes(), true)
				same(t, "one more", p.Write(7, "z"), api.ErrOff)
				want := "yyyy"[:second]
				if second < between {
					want += "xxxx"[second:between]
				}
				holds(t, "at the end", p, want+strings.Repeat(".", 8-len(want)), false)
			}
		}
	}
}

func TestWrongCutChangesNothing(t *testing.T) {
	p := fresh(t, "abc")
	same(t, "wrong", p.Cut(-1), api.ErrBound)
	same(t, "no cut", p.Write(0, "123"), nil)
	same(t, "cut", p.Cut(1), nil)
	same(t, "wrong", p.Cut(math.MinInt), api.ErrBound)
	same(t, "cut still", p.Write(0, "xy"), api.ErrOff)
	holds(t, "cut still", p, "x23", false)
	same(t, "off", p.Cut(9), api.ErrOff)
	holds(t, "off still", p, "x23", false)
}

func TestFarCut(t *testing.T) {
	p := fresh(t, "abc")
	same(t, "far", p.Cut(math.MaxInt), nil)
	for range 100 {
		same(t, "Write", p.Write(0, "123"), nil)
	}
	holds(t, "power", p, "123", true)
}

// P21: On and Off.

func TestOnTakesTheCutAway(t *testing.T) {
	p := fresh(t, "abc")
	same(t, "Cut", p.Cut(1), nil)
	p.On()
	same(t, "no cut", p.Write(0, "123"), nil)
	same(t, "Cut", p.Cut(0), nil)
	p.On()
	same(t, "no cut", p.Write(0, "456"), nil)
	same(t, "Cut", p.Cut(2), nil)
	p.Off()
	holds(t, "off", p, "456", false)
	p.On()
	holds(t, "on", p, "456", true)
	same(t, "no cut", p.Write(0, "789"), nil)
	same(t, "Cut", p.Cut(0), nil)
	same(t, "cut", p.Write(0, "x"), api.ErrOff)
	p.On()
	p.On()
	same(t, "no cut", p.Write(0, "abc"), nil)
	holds(t, "at the end", p, "abc", true)
}

func TestOff(t *testing.T) {
	p := fresh(t, "abc")
	p.Off()
	p.Off()
	holds(t, "off", p, "abc", false)
	same(t, "Write", p.Write(0, "x"), api.ErrOff)
	p.On()
	holds(t, "on", p, "abc", true)
	if got, err := p.Read(0, 3); got != "abc" || err != nil {
		t.Errorf("Read: %q, %v", got, err)
	}
}

func TestNoBytes(t *testing.T) {
	p := fresh(t, "")
	same(t, "Cut", p.Cut(0), nil)
	same(t, "Write", p.Write(0, ""), nil)
	same(t, "Write", p.Write(0, "x"), api.ErrBound)
	holds(t, "power", p, "", true)
	p.Off()
	same(t, "Write", p.Write(0, ""), api.ErrOff)
}

// P22: a history of writes is spread over bytes, one by one; whatever the cut, the plate is what the first bytes of that history make, and On does not change it.
func TestAheadOfACutAllStaysBehindItNothing(t *testing.T) {
	writes := []struct {
		at int
		b  string
	}{{0, "abcd"}, {2, "xy"}, {7, ""}, {5, "pq"}, {0, "\x00\x00\x00"}, {6, "z"}, {0, "1234567"}, {3, "."}}
	total := 0
	for _, w := range writes {
		total += len(w.b)
	}
	for cut := 0; cut <= total+1; cut++ {
		p := fresh(t, "-------")
		want := []byte("-------")
		left, gone := cut, false
		same(t, "Cut", p.Cut(cut), nil)
		for i, w := range writes {
			for k := range len(w.b) {
				if left == 0 {
					gone = true
					break
				}
				want[w.at+k] = w.b[k]
				left--
			}
			wantErr := error(nil)
			if gone {
				wantErr = api.ErrOff
			}
			if err := p.Write(w.at, w.b); err != wantErr {
				t.Errorf("cut %d, write %d: %v, want %v", cut, i, err, wantErr)
			}
			holds(t, "after a write", p, string(want), !gone)
			if gone {
				left = 0
			}
		}
		p.On()
		holds(t, "on again", p, string(want), true)
		if got, err := p.Read(0, 7); got != string(want) || err != nil {
			t.Errorf("Read: %q, %v", got, err)
		}
	}
}

// P2, P4: plates know nothing of each other, and what was told stays as it was told.
func TestPlatesAreApart(t *testing.T) {
	const b = "abcdef"
	p, q := fresh(t, b), fresh(t, b)
	told, err := p.Read(0, 6)
	all := p.Bytes()
	same(t, "Read", err, nil)
	same(t, "Write", p.Write(0, "123"), nil)
	same(t, "Cut", p.Cut(0), nil)
	holds(t, "the other one", q, b, true)
	same(t, "Write", q.Write(0, "xyz"), nil)
	holds(t, "the one", p, "123def", true)
	p.Off()
	holds(t, "the other one", q, "xyzdef", true)
	if told != b || all != b {
		t.Errorf("told %q, %q", told, all)
	}
}
