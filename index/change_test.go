package index_test

import (
	"math/bits"
	"slices"
	"testing"

	"barograph/api"
	"barograph/crc"
	"barograph/index"
)

// The bits of encoded bytes are counted as the checksum takes them: the lowest bit of a byte first.

// changed are bytes of which the bits from start on are changed where the pattern has a bit, its lowest one first.
func changed(b []byte, start int, pattern uint32) []byte {
	c := slices.Clone(b)
	for ; pattern != 0; pattern &= pattern - 1 {
		at := start + bits.TrailingZeros32(pattern)
		c[at/8] ^= 1 << (at % 8)
	}
	return c
}

// isTold asks whether a change within 32 bits in a row is told: by the sum, for it comes ahead of the form.
func isTold(t *testing.T, b []byte, start int, pattern uint32) {
	if x, errno := index.Open(changed(b, start, pattern)); errno != api.ErrIndexSum || x != nil {
		t.Errorf("%x: the change %08x from bit %d on: %v", short(string(b)), pattern, start, errno)
	}
}

// shortIndexes are the bytes of some.
func shortIndexes() [][]byte {
	var all [][]byte
	for _, l := range [][]api.Entry{nil, ofSets(nil), ofSets(set("a", "1")), some()} {
		all = append(all, contentOf(l).bytes())
	}
	return all
}

// rank is how many of these are independent of each other under the exclusive or.
func rank(rows []uint32) int {
	var lead [32]uint32
	n := 0
	for _, row := range rows {
		for row != 0 {
			top := bits.Len32(row) - 1
			if lead[top] == 0 {
				lead[top] = row
				n++
				break
			}
			row ^= lead[top]
		}
	}
	return n
}

// difference is what the sum that bytes end with lacks to that of the bytes ahead of it; none: 0, and Open does not tell a wrong sum.
func difference(b []byte) uint32 {
	n := len(b) - 4
	said := uint32(b[n]) | uint32(b[n+1])<<8 | uint32(b[n+2])<<16 | uint32(b[n+3])<<24
	return said ^ crc.Sum(b[:n])
}

// All changes within 32 bits: by the exclusive or, a change has the differences of its bits; those of a window of 32 are all told if no choice of them sums up to nothing.
func TestEveryChangeWithin32Bits(t *testing.T) {
	for _, b := range shortIndexes() {
		if difference(b) != 0 {
			t.Errorf("%x: another sum", b)
		}
		for start := range 8*len(b) - 31 {
			var differences []uint32
			for i := range 32 {
				differences = append(differences, difference(changed(b, start, 1<<i)))
			}
			if got := rank(differences); got != 32 {
				t.Errorf("%x: changes in the 32 bits from %d on: rank %d", b, start, got)
			}
		}
	}
}

// All changes within 12 bits, asked of Open one by one; a change begins with its first bit.
func TestEveryChangeWithin12Bits(t *testing.T) {
	for _, b := range shortIndexes()[:3] {
		for start := range 8 * len(b) {
			for pattern := uint32(1); pattern < 1<<min(12, 8*len(b)-start); pattern += 2 {
				isTold(t, b, start, pattern)
			}
		}
	}
}

// Single bits, all pairs of bits, whole bytes and other changes of up to 32 bits, at each place.
func TestChangesWithin32Bits(t *testing.T) {
	patterns := []uint32{0xffffffff, 0x82f63b78, 0x1edc6f41, 0x11111111, 0xffff, 0xffffff, 0xff000000, 0xfffffffe, 0x7fffffff}
	for i := range 32 {
		for j := range i + 1 {
			patterns = append(patterns, 1<<i|1<<j)
		}
	}
	for x := range uint32(256) {
		patterns = append(patterns, x|1, x<<24|1)
	}
	for _, b := range shortIndexes() {
		for start := range 8*len(b) - 31 {
			for _, pattern := range patterns {
				isTold(t, b, start, pattern)
			}
		}
	}
}

// T9: a changed byte is told, wherever it stands and whatever it becomes.
func TestEveryChangedByte(t *testing.T) {
	for _, b := range shortIndexes() {
		for at := range b {
			for x := uint32(1); x < 256; x++ {
				isTold(t, b, 8*at, x)
			}
		}
	}
}

// Drawn changes of short and of longer indexes.
func TestDrawnChanges(t *testing.T) {
	d := dice(142)
	for range 40 {
		b, _ := index.Encode(drawnEntries(&d))
		for range 2000 {
			isTold(t, b, d.below(8*len(b)-31), uint32(d.number())>>d.below(32)|1)
		}
	}
	for _, l := range [][]api.Entry{many(300), many(2000)} {
		b, _ := index.Encode(l)
		for range 300 {
			isTold(t, b, d.below(8*len(b)-31), uint32(d.number())>>d.below(32)|1)
		}
	}
}
