package sum_test

import (
	"hash/crc32"
	"strings"
	"testing"

	"threefold/sum"
)

func TestByHand(t *testing.T) {
	for _, c := range []struct {
		b    string
		want uint32
	}{
		{"", 0},
		{"\x00", 0xD202EF8D},
		{"\xff", 0xFF000000},
		{"123456789", 0xCBF43926},
	} {
		if got := sum.Of(c.b); got != c.want {
			t.Errorf("%q: %08x, want %08x", c.b, got, c.want)
		}
	}
}

func TestAgainstTheLibrary(t *testing.T) {
	all := make([]byte, 256)
	for i := range all {
		all[i] = byte(i)
	}
	for n := range len(all) + 1 {
		for _, b := range []string{string(all[:n]), string(all[n:]), strings.Repeat("\x00", n), strings.Repeat("\xff", n)} {
			if got, want := sum.Of(b), crc32.ChecksumIEEE([]byte(b)); got != want {
				t.Fatalf("%q: %08x, want %08x", b, got, want)
			}
		}
	}
}
