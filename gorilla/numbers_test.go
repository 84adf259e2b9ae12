package gorilla_test

import (
	"bytes"
	"math"
	"slices"
	"strings"
	"testing"

	"barograph/api"
)

// changed are samples ten apart whose numbers differ by these bits, each from the one before, the first one from v.
func changed(v uint64, xs ...uint64) []api.Sample {
	numbers := []uint64{v}
	for _, x := range xs {
		v ^= x
		numbers = append(numbers, v)
	}
	return of(numbers...)
}

// numbers holds the bits of numbers against these, which are as many as there are changes: all the times of changed take one bit but the second one.
func numbers(t *testing.T, l []api.Sample, want []string) {
	t.Helper()
	s := signed(0) + bin(uint64(l[0].V), 64) + varint(10)
	for i, bits := range want {
		if i > 0 {
			s += "0"
		}
		s += unspaced(bits)
	}
	c := appended(t, l).Chunk()
	if !bytes.Equal(c.Data, pack(s)) {
		t.Errorf("the data of %v is %x, want %x", l, c.Data, pack(s))
	}
	isChunk(t, c, l)
}

func zeros(n int) string { return strings.Repeat("0", n) }
func ones(n int) string  { return strings.Repeat("1", n) }

func TestNumbersToTheBit(t *testing.T) {
	for _, x := range []struct {
		xs   []uint64
		want []string
	}{
		// the same as the one before
		{[]uint64{0}, []string{"0"}},
		{[]uint64{0, 0, 0}, []string{"0", "0", "0"}},
		// the first window: at the top, at the bottom, from the first to the last bit, between
		{[]uint64{1 << 63}, []string{"11 00000 000000 1"}},
		{[]uint64{1<<63 + 1}, []string{"11 00000 111111 1" + zeros(62) + "1"}},
		{[]uint64{math.MaxUint64}, []string{"11 00000 111111 " + ones(64)}},
		{[]uint64{math.MaxUint64 - 1}, []string{"11 00000 111110 " + ones(63)}},
		{[]uint64{math.MaxUint64 >> 1}, []string{"11 00001 111110 " + ones(63)}},
		{[]uint64{0b1011 << 40}, []string{"11 10100 000011 1011"}},
		{[]uint64{0b101 << 61}, []string{"11 00000 000010 101"}},
		// 30 to 33 leading zero bits, and all of them
		{[]uint64{1 << 33}, []string{"11 11110 000000 1"}},
		{[]uint64{1 << 32}, []string{"11 11111 000000 1"}},
		{[]uint64{1 << 31}, []string{"11 11111 000001 01"}},
		{[]uint64{1 << 30}, []string{"11 11111 000010 001"}},
		{[]uint64{1}, []string{"11 11111 100000 " + zeros(32) + "1"}},
		{[]uint64{0b110}, []string{"11 11111 011111 " + zeros(30) + "11"}},
		{[]uint64{math.MaxUint32}, []string{"11 11111 100000 0" + ones(32)}},
		{[]uint64{math.MaxUint32 << 1}, []string{"11 11111 011111 " + ones(32)}},
		// within the window: all of it, at its upper end, at its lower one, between
		{[]uint64{0b10101 << 20, 0b10001 << 20}, []string{"11 11111 001100 " + zeros(8) + "10101", "10 " + zeros(8) + "10001"}},
		{[]uint64{0b11011 << 40, 0b11011 << 40}, []string{"11 10011 000100 11011", "10 11011"}},
		{[]uint64{0b11011 << 40, 0b10000 << 40}, []string{"11 10011 000100 11011", "10 10000"}},
		{[]uint64{0b11011 << 40, 0b00001 << 40}, []string{"11 10011 000100 11011", "10 00001"}},
		{[]uint64{0b11011 << 40, 0b00110 << 40}, []string{"11 10011 000100 11011", "10 00110"}},
		// beyond it by one bit: above, below, on both sides, and apart from it
		{[]uint64{0b11011 << 40, 0b110110 << 40}, []string{"11 10011 000100 11011", "11 10010 000100 11011"}},
		{[]uint64{0b11011 << 40, 0b110111 << 39}, []string{"11 10011 000100 11011", "11 10011 000101 110111"}},
		{[]uint64{0b11011 << 40, 0b1000001 << 39}, []string{"11 10011 000100 11011", "11 10010 000110 1000001"}},
		{[]uint64{0b11011 << 40, 1 << 45}, []string{"11 10011 000100 11011", "11 10010 000000 1"}},
		{[]uint64{0b11011 << 40, 1 << 39}, []string{"11 10011 000100 11011", "11 11000 000000 1"}},
		{[]uint64{0b11011 << 40, 1 << 63}, []string{"11 10011 000100 11011", "11 00000 000000 1"}},
		{[]uint64{0b11011 << 40, 1}, []string{"11 10011 000100 11011", "11 11111 100000 " + zeros(32) + "1"}},
		// a number within a window leaves it as wide as it is
		{[]uint64{0b11011 << 40, 0b100 << 40, 0b11 << 40, 0b10001 << 40}, []string{"11 10011 000100 11011", "10 00100", "10 00011", "10 10001"}},
		// a new window replaces the old one, also where it is less wide
		{[]uint64{0b11011 << 40, 1 << 39, 0b11011 << 40}, []string{"11 10011 000100 11011", "11 11000 000000 1", "11 10011 000100 11011"}},
		{[]uint64{0b11011 << 40, 1 << 39, 1 << 40}, []string{"11 10011 000100 11011", "11 11000 000000 1", "11 10111 000000 1"}},
		// the same ones between keep it
		{[]uint64{0, 0b11011 << 40, 0, 0, 0b11 << 40, 0}, []string{"0", "11 10011 000100 11011", "0", "0", "10 00011", "0"}},
		// the widest window serves for everything from then on
		{[]uint64{1<<63 + 1, 1, 1 << 63, 1 << 31, math.MaxUint64, 0}, []string{"11 00000 111111 1" + zeros(62) + "1", "10 " + zeros(63) + "1", "10 1" + zeros(63), "10 " + zeros(32) + "1" + zeros(31), "10 " + ones(64), "0"}},
		// a window of 31 leading ones serves for numbers with more of them, not for one with 30
		{[]uint64{1 << 20, 1 << 25, 1 << 32, 1 << 33}, []string{"11 11111 001100 " + zeros(12) + "1", "10 0000000100000", "10 1" + zeros(12), "11 11110 000000 1"}},
		{[]uint64{1 << 25, 1 << 20}, []string{"11 11111 000111 00000001", "11 11111 001100 " + zeros(12) + "1"}},
	} {
		for _, v := range []uint64{0, 0x3ff0000000000000, math.MaxUint64, 0x0123456789abcdef} {
			numbers(t, changed(v, x.xs...), x.want)
		}
	}
}

// shape has bits set from the one behind l zero bits to the one ahead of e of them.
func shape(l, e int) uint64 { return 1<<(63-l) | 1<<e }

// Each window that there may be, as the first one; then numbers that fill it, lie in it, or go beyond it by one bit.
func TestEachWindow(t *testing.T) {
	for l := range 64 {
		for e := range 64 - l {
			x := shape(l, e)
			wide := changed(0x4059000000000000, x, 0, x, 1<<e, 1<<(63-l))
			holds(t, appended(t, wide), wide)
			isChunk(t, chunkOf(wide), wide)
			for _, y := range []uint64{shape(max(0, l-1), e), shape(l, max(0, e-1)), shape(min(l+1, 63-e), e), shape(l, min(e+1, 63-l)), shape(max(0, l-1), max(0, e-1)), 1 << max(0, e-1), 1 << min(63, 64-l), 1 << 63, 1, math.MaxUint64} {
				samples := changed(0x4059000000000000, x, y, x)
				holds(t, appended(t, samples), samples)
			}
		}
	}
}

// Each single bit behind each single bit, and behind a window of some.
func TestSingleBits(t *testing.T) {
	for i := range 64 {
		for j := range 64 {
			for _, samples := range [][]api.Sample{changed(0, 1<<i, 1<<j, 1<<i), changed(0, 0b1111111<<25, 1<<i, 1<<j), changed(0, 0b101<<i, 1<<j)} {
				holds(t, appended(t, samples), samples)
			}
		}
	}
}

// Numbers are bits, whatever they stand for.
func TestNumbersOfAnyBits(t *testing.T) {
	special := []uint64{
		0, 1 << 63, 1, 1<<63 | 1, 0x000fffffffffffff, 0x0010000000000000, 0x7fefffffffffffff, 0x7ff0000000000000, 0xfff0000000000000, 0x3ff0000000000000, 0xbff0000000000000,
		0x7ff8000000000000, 0xfff8000000000000, 0x7ff0000000000001, 0x7ff4000000000000, 0xfff0000000000001, 0x7fffffffffffffff, 0xffffffffffffffff, 0x7ff8000000000001, 0x7ff8dead0000beef,
	}
	for _, v := range special {
		for _, w := range special {
			l := of(v, w, v, v, w)
			c := appended(t, l).Chunk()
			if !same(c, chunkOf(l)) {
				t.Errorf("the chunk of %x, %x and so on is %+v", v, w, c)
			}
			isChunk(t, c, l)
		}
	}
	l := of(special...)
	holds(t, appended(t, l), l)
	isChunk(t, chunkOf(l), l)
}

// The same, in a window and beyond it, in every order of up to six.
func TestWaysInAnyOrder(t *testing.T) {
	var grow func(xs []uint64)
	grow = func(xs []uint64) {
		if len(xs) > 0 {
			l := changed(0x4059000000000000, xs...)
			holds(t, appended(t, l), l)
			isChunk(t, chunkOf(l), l)
		}
		if len(xs) == 6 || t.Failed() {
			return
		}
		for _, x := range []uint64{0, 0b111 << 40, 0b10 << 40, 0b1111 << 40} {
			grow(append(slices.Clone(xs), x))
		}
	}
	grow(nil)
}

// The rows of the table of times, and the ways of a number, side by side.
func TestTimesAndNumbersMixed(t *testing.T) {
	for _, step := range steps {
		for _, other := range steps {
			for _, x := range []uint64{0, 0b11011 << 40, 1, 1 << 63} {
				for _, y := range []uint64{0, 0b11 << 40, math.MaxUint64} {
					const gap = 1 << 43
					l := changed(0x7ff8000000000001, x, x, y, 0)
					for i, at := range []int64{0, gap, 2*gap + step.d, 3*gap + 2*step.d + other.d, 4*gap + 3*step.d + 2*other.d} {
						l[i].T = at
					}
					holds(t, appended(t, l), l)
				}
			}
		}
	}
}
