// Package sum: the sum of bytes that journal and wire write behind them: see ../shared/doc/03-journal.md.
package sum

import "math"

const poly = 0xEDB88320

// Of bytes. It goes bit by bit: the few bytes of a slot or a frame do not pay for a table.
func Of(b string) uint32 {
	rest := uint32(math.MaxUint32)
	for i := range len(b) {
		rest ^= uint32(b[i])
		for range 8 {
			low := rest & 1
			rest >>= 1
			if low == 1 {
				rest ^= poly
			}
		}
	}
	return ^rest
}
