package crc_test

import (
	"bytes"
	"hash/crc32"
	"math/bits"
	"slices"
	"testing"

	"barograph/crc"
)

// The calls have these signatures.
var (
	_ func([]byte) uint32         = crc.Sum
	_ func(uint32, []byte) uint32 = crc.More
)

// bitwise is the chapter's description of the checksum, word for word, from any register on.
func bitwise(register uint32, b []byte) uint32 {
	for _, c := range b {
		register ^= uint32(c)
		for range 8 {
			low := register & 1
			register >>= 1
			if low == 1 {
				register ^= 0x82f63b78
			}
		}
	}
	return ^register
}

// someBytes are n bytes without a pattern, the same ones at every call with that seed.
func someBytes(n int, seed uint32) []byte {
	b := make([]byte, n)
	for i := range b {
		seed = seed*1664525 + 1013904223
		b[i] = byte(seed >> 24)
	}
	return b
}

// anySums are numbers ahead of the bytes: edges, each single bit and its complement, and some without a pattern.
func anySums() []uint32 {
	sums := []uint32{0, 1, 0x7fffffff, 0x80000000, 0xfffffffe, 0xffffffff, 0x82f63b78, 0x1edc6f41, 0xe3069283, ^uint32(0xe3069283)}
	for i := range 32 {
		sums = append(sums, 1<<i, ^uint32(1<<i))
	}
	seed := uint32(7)
	for range 64 {
		seed = seed*1664525 + 1013904223
		sums = append(sums, bits.Reverse32(seed)^seed)
	}
	return sums
}

func xor(a, b []byte) []byte {
	c := make([]byte, len(a))
	for i := range c {
		c[i] = a[i] ^ b[i]
	}
	return c
}

// flip changes one bit; bits are numbered as the register takes them, the lowest of a byte first.
func flip(b []byte, bit int) []byte {
	c := bytes.Clone(b)
	c[bit/8] ^= 1 << (bit % 8)
	return c
}

// burst changes those bits of a window of 32, which begins at that bit, that the pattern tells.
func burst(b []byte, start int, pattern uint32) []byte {
	c := bytes.Clone(b)
	for i := range 32 {
		if pattern>>i&1 == 1 {
			c[(start+i)/8] ^= 1 << ((start + i) % 8)
		}
	}
	return c
}

func TestExamples(t *testing.T) {
	for _, x := range []struct {
		text string
		want uint32
	}{{"123456789", 0xe3069283}, {"", 0}, {"\x00", 0x527d5351}} {
		if got := crc.Sum([]byte(x.text)); got != x.want {
			t.Errorf("Sum(%q) = %08x, want %08x", x.text, got, x.want)
		}
	}
	if got := crc.More(crc.Sum([]byte("1234")), []byte("56789")); got != 0xe3069283 {
		t.Errorf("More(Sum(1234), 56789) = %08x", got)
	}
}

// Values that others tell of CRC-32C (RFC 3720, B.4).
func TestKnownSums(t *testing.T) {
	rising, falling := make([]byte, 32), make([]byte, 32)
	for i := range rising {
		rising[i], falling[31-i] = byte(i), byte(i)
	}
	for _, x := range []struct {
		b    []byte
		want uint32
	}{
		{make([]byte, 32), 0x8a9136aa},
		{bytes.Repeat([]byte{0xff}, 32), 0x62a8ab43},
		{rising, 0x46dd794e},
		{falling, 0x113fdb5c},
	} {
		if got := crc.Sum(x.b); got != x.want {
			t.Errorf("Sum(%x) = %08x, want %08x", x.b, got, x.want)
		}
	}
}

func TestNothing(t *testing.T) {
	for _, b := range [][]byte{nil, {}, make([]byte, 0, 8), []byte("abc")[:0], []byte("abc")[3:]} {
		if got := crc.Sum(b); got != 0 {
			t.Errorf("Sum of no bytes = %08x", got)
		}
		for _, sum := range anySums() {
			if got := crc.More(sum, b); got != sum {
				t.Errorf("More(%08x, no bytes) = %08x", sum, got)
			}
		}
	}
}

func TestSumOfEachByte(t *testing.T) {
	for c := range 256 {
		b := []byte{byte(c)}
		if got, want := crc.Sum(b), bitwise(0xffffffff, b); got != want {
			t.Errorf("Sum(%x) = %08x, want %08x", b, got, want)
		}
	}
}

func TestSumIsTheDescription(t *testing.T) {
	for n := range 300 {
		for seed := range uint32(4) {
			b := someBytes(n, seed)
			if got, want := crc.Sum(b), bitwise(0xffffffff, b); got != want {
				t.Errorf("Sum of %d bytes, seed %d = %08x, want %08x", n, seed, got, want)
			}
		}
	}
}

func TestSumOfManyBytes(t *testing.T) {
	table := crc32.MakeTable(crc32.Castagnoli)
	for _, n := range []int{4095, 4096, 65537, 1 << 20} {
		b := someBytes(n, uint32(n))
		if got, want := crc.Sum(b), crc32.Checksum(b, table); got != want {
			t.Errorf("Sum of %d bytes = %08x, want %08x", n, got, want)
		}
	}
}

func TestMoreBehindAnySum(t *testing.T) {
	texts := [][]byte{nil, {0}, {0xff}, []byte("56789"), make([]byte, 5), someBytes(33, 1), someBytes(256, 2)}
	for _, sum := range anySums() {
		for _, b := range texts {
			if got, want := crc.More(sum, b), bitwise(^sum, b); got != want {
				t.Errorf("More(%08x, %x) = %08x, want %08x", sum, b, got, want)
			}
		}
	}
}

func TestMoreBehindTwoPieces(t *testing.T) {
	for _, whole := range [][]byte{nil, {0}, []byte("123456789"), make([]byte, 40), someBytes(70, 3)} {
		want := crc.Sum(whole)
		for cut := range len(whole) + 1 {
			if got := crc.More(crc.Sum(whole[:cut]), whole[cut:]); got != want {
				t.Errorf("%x, cut at %d: %08x, want %08x", whole, cut, got, want)
			}
		}
	}
}

// Pieces of any length, the empty ones among them, behind a sum of any value.
func TestMoreBehindManyPieces(t *testing.T) {
	whole := someBytes(60, 4)
	for _, sum := range anySums() {
		want := crc.More(sum, whole)
		for size := 1; size <= len(whole); size++ {
			got := crc.More(sum, nil)
			for piece := range slices.Chunk(whole, size) {
				got = crc.More(got, []byte{})
				got = crc.More(got, piece)
				got = crc.More(got, nil)
			}
			if got != want {
				t.Errorf("from %08x, pieces of %d: %08x, want %08x", sum, size, got, want)
			}
		}
	}
}

func TestExclusiveOrOfTwoTexts(t *testing.T) {
	for n := range 130 {
		pairs := [][2][]byte{
			{someBytes(n, 5), someBytes(n, 6)},
			{someBytes(n, 7), someBytes(n, 7)},
			{someBytes(n, 8), make([]byte, n)},
			{bytes.Repeat([]byte{0xff}, n), someBytes(n, 9)},
		}
		for _, p := range pairs {
			a, b := p[0], p[1]
			if got := crc.Sum(a) ^ crc.Sum(b) ^ crc.Sum(xor(a, b)) ^ crc.Sum(make([]byte, n)); got != 0 {
				t.Errorf("%x and %x: %08x is left", a, b, got)
			}
		}
	}
}

// rank is how many of these are independent of each other under the exclusive or.
func rank(rows []uint32) int {
	var lead [32]uint32
	n := 0
	for _, row := range rows {
		for row != 0 {
			top := bits.Len32(row) - 1
			if lead[top] == 0 {
				lead[top] = row
				n++
				break
			}
			row ^= lead[top]
		}
	}
	return n
}

// By the exclusive or, a change has the changes of its bits: those of a window of 32 are all told apart from none if no choice of them sums up to nothing.
func TestEveryChangeWithin32Bits(t *testing.T) {
	for _, b := range [][]byte{make([]byte, 9), someBytes(20, 10), someBytes(40, 11)} {
		for start := range len(b)*8 - 31 {
			var differences []uint32
			for i := range 32 {
				differences = append(differences, crc.Sum(b)^crc.Sum(flip(b, start+i)))
			}
			if got := rank(differences); got != 32 {
				t.Errorf("%x: changes in the 32 bits from %d on: rank %d", b, start, got)
			}
		}
	}
}

func TestChangesWithin32Bits(t *testing.T) {
	b := someBytes(24, 12)
	want := crc.Sum(b)
	patterns := []uint32{0xffffffff, 0x80000001, 0x80000000, 0x82f63b78, 0x1edc6f41, 0x11111111, 0xff, 0xffff, 0xffffff, 0xff000000, 0x00018000}
	for _, n := range someBytes(200, 13) {
		patterns = append(patterns, uint32(n)*0x01000193+1)
	}
	for i := range 32 {
		for j := range i + 1 {
			patterns = append(patterns, 1<<i|1<<j)
		}
	}
	for start := range len(b)*8 - 31 {
		for _, p := range patterns {
			if crc.Sum(burst(b, start, p)) == want {
				t.Errorf("change %08x from bit %d on is not seen", p, start)
			}
		}
	}
}

// A change of fewer bytes than four is within 32 bits too, as is one of a text shorter than that.
func TestChangesOfShortTexts(t *testing.T) {
	for n := 1; n <= 2; n++ {
		seen := map[uint32]int{}
		for x := range 1 << (8 * n) {
			b := []byte{byte(x), byte(x >> 8)}[:n]
			sum := crc.Sum(b)
			if other, ok := seen[sum]; ok {
				t.Fatalf("%x and %x, of %d bytes, have one sum", x, other, n)
			}
			seen[sum] = x
		}
	}
}

// T9: a changed byte is detected, wherever it stands and whatever it becomes.
func TestChangedByte(t *testing.T) {
	for _, b := range [][]byte{{0}, []byte("123456789"), make([]byte, 16), someBytes(256, 14)} {
		want := crc.Sum(b)
		for at := range b {
			for change := 1; change < 256; change++ {
				c := bytes.Clone(b)
				c[at] ^= byte(change)
				if crc.Sum(c) == want {
					t.Errorf("%x: byte %d changed by %02x is not seen", b, at, change)
				}
			}
		}
	}
}

// T9: bytes and their sum are told to be the written ones when read again, behind a sum of any value too.
func TestReadAgain(t *testing.T) {
	for _, sum := range anySums() {
		written := someBytes(50, 15)
		want := crc.More(sum, written)
		if got := crc.More(sum, bytes.Clone(written)); got != want {
			t.Errorf("from %08x: %08x, then %08x", sum, want, got)
		}
		for at := range written {
			c := bytes.Clone(written)
			c[at]++
			if crc.More(sum, c) == want {
				t.Errorf("from %08x: changed byte %d is not seen", sum, at)
			}
		}
	}
}

// What was handed in stays as it was, and so does what lies around it, which has no say in the sum.
func TestBytesStayAsTheyWere(t *testing.T) {
	around := someBytes(64, 16)
	before := bytes.Clone(around)
	piece := around[10:30]
	want := bitwise(0xffffffff, bytes.Clone(piece))
	for _, c := range []byte{0, 0xff, 'x'} {
		around[9], around[30], around[63] = c, c, c
		before[9], before[30], before[63] = c, c, c
		if got := crc.Sum(piece); got != want {
			t.Errorf("Sum = %08x, want %08x, with %02x around", got, want, c)
		}
		if got := crc.More(crc.Sum(nil), piece); got != want {
			t.Errorf("More = %08x, want %08x, with %02x around", got, want, c)
		}
		if !bytes.Equal(around, before) {
			t.Errorf("%x became %x", before, around)
		}
	}
}

// A call hangs on nothing but its arguments: others before it, or between two pieces, change nothing, nor do bytes that change later.
func TestNothingIsKept(t *testing.T) {
	b := []byte("1234")
	half := crc.Sum(b)
	copy(b, "zzzz")
	crc.Sum(someBytes(100, 17))
	crc.More(0xdeadbeef, someBytes(100, 18))
	if got := crc.More(half, []byte("56789")); got != 0xe3069283 {
		t.Errorf("More = %08x", got)
	}
	for range 3 {
		if got := crc.Sum([]byte("123456789")); got != 0xe3069283 {
			t.Errorf("Sum = %08x", got)
		}
	}
}
