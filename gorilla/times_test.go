package gorilla_test

import (
	"bytes"
	"math"
	"slices"
	"testing"

	"barograph/api"
	"barograph/gorilla"
)

// steps are D at the ends of each row of the table, one beyond them, and some between, with their bits.
var steps = []struct {
	d    int64
	bits string
}{
	{0, "0"},
	{-1, "10 0111110"}, {1, "10 1000000"}, {-2, "10 0111101"}, {2, "10 1000001"}, {-63, "10 0000000"}, {-62, "10 0000001"}, {63, "10 1111110"}, {64, "10 1111111"},
	{-64, "110 010111111"}, {65, "110 101000000"}, {-255, "110 000000000"}, {-254, "110 000000001"}, {255, "110 111111110"}, {256, "110 111111111"},
	{-256, "1110 011011111111"}, {257, "1110 100100000000"}, {-2047, "1110 000000000000"}, {-2046, "1110 000000000001"}, {2047, "1110 111111111110"}, {2048, "1110 111111111111"},
	{-2048, "1111 1111111111111111111111111111111111111111111111111111100000000000"},
	{2049, "1111 0000000000000000000000000000000000000000000000000000100000000001"},
	{-2049, "1111 1111111111111111111111111111111111111111111111111111011111111111"},
	{1 << 40, "1111 0000000000000000000000010000000000000000000000000000000000000000"},
	{-1 << 40, "1111 1111111111111111111111110000000000000000000000000000000000000000"},
}

func unspaced(s string) string { return string(bytes.ReplaceAll([]byte(s), []byte(" "), nil)) }

// head are the bits of two samples at these times, of the same number.
func head(t0, t1 int64) string {
	return signed(t0) + bin(0x3ff0000000000000, 64) + varint(uint64(t1-t0)) + "0"
}

func TestStepsToTheBit(t *testing.T) {
	const gap = 1 << 41
	for _, x := range steps {
		l := at(0, gap, 2*gap+x.d)
		c := appended(t, l).Chunk()
		if want := pack(head(0, gap) + unspaced(x.bits) + "0"); !bytes.Equal(c.Data, want) {
			t.Errorf("a step of %d: %x, want %x", x.d, c.Data, want)
		}
		isChunk(t, c, l)
	}
}

// Every step of the three middle rows, and some of the others on either side.
func TestEachStep(t *testing.T) {
	for d := int64(-2300); d <= 2300; d++ {
		l := at(-7, 3000, 6007+d)
		c := appended(t, l).Chunk()
		if want := pack(head(-7, 3000) + timeOf(d) + "0"); !bytes.Equal(c.Data, want) {
			t.Errorf("a step of %d: %x, want %x", d, c.Data, want)
		}
		isChunk(t, c, l)
	}
}

// The ends of what 64 bits can tell, and of fewer bits.
func TestGreatSteps(t *testing.T) {
	for i := range 54 {
		for _, d := range []int64{1 << i, 1<<i - 1, 1<<i + 1, -1 << i, -1<<i - 1, -1<<i + 1} {
			l := at(first, first+1, first+2)
			if d >= 0 && d <= 1<<54-2 {
				l[2].T += d
			} else if gap := int64(1 - d); gap <= 1<<54-1 {
				l = at(first, first+gap, first+gap+1)
			}
			holds(t, appended(t, l), l)
			isChunk(t, chunkOf(l), l)
		}
	}
	for _, l := range [][]api.Sample{at(first, first+1, final), at(first, final-1, final), at(first, 0, final), at(first, -1, final), at(first, 1, final), at(first, first+1, final-1, final)} {
		holds(t, appended(t, l), l)
		isChunk(t, chunkOf(l), l)
	}
}

// A step is how much a difference changes, also behind the third sample, and whatever rows were before.
func TestStepsBehindOneAnother(t *testing.T) {
	for _, x := range steps {
		for _, y := range steps {
			const gap = 1 << 43
			l := at(0, gap, 2*gap+x.d, 3*gap+2*x.d+y.d, 4*gap+3*x.d+2*y.d)
			c := appended(t, l).Chunk()
			if want := pack(head(0, gap) + unspaced(x.bits) + "0" + unspaced(y.bits) + "0" + "0" + "0"); !bytes.Equal(c.Data, want) {
				t.Errorf("steps of %d and %d: %x, want %x", x.d, y.d, c.Data, want)
			}
			isChunk(t, c, l)
		}
	}
}

func TestFirstTimes(t *testing.T) {
	times := slices.Clone(within)
	for i := range 53 {
		times = append(times, 1<<i, 1<<i-1, 1<<i+1, -1<<i, -1<<i-1, -1<<i+1)
	}
	for _, x := range times {
		l := at(x)
		c := appended(t, l).Chunk()
		if want := pack(signed(x) + bin(0x3ff0000000000000, 64)); c.From != x || c.To != x || !bytes.Equal(c.Data, want) {
			t.Errorf("a first time of %d: %+v, want %x", x, c, want)
		}
		isChunk(t, c, l)
	}
}

func TestSecondTimes(t *testing.T) {
	gaps := []int64{1, 2, 127, 128, 129, 300, 16383, 16384, 1 << 53, 1<<53 + 1, 1<<54 - 1, 1 << 54}
	for i := range 54 {
		gaps = append(gaps, 1<<i, 1<<i+1, max(1, int64(1)<<i-1))
	}
	for _, gap := range gaps {
		l := at(first, first+gap)
		c := appended(t, l).Chunk()
		if want := pack(head(first, first+gap)); c.From != first || c.To != first+gap || !bytes.Equal(c.Data, want) {
			t.Errorf("a second time %d later: %+v, want %x", gap, c, want)
		}
		isChunk(t, c, l)
		if gap < 1<<53 {
			holds(t, appended(t, at(-gap/2, gap-gap/2)), at(-gap/2, gap-gap/2))
		}
	}
}

// Times whose sums and differences go beyond 64 bits have no chunk: none comes out within range and greater.
func TestStepsThatWrapAround(t *testing.T) {
	far := []int64{math.MaxInt64, math.MinInt64, math.MaxInt64 - 1, math.MinInt64 + 1, math.MaxInt64 - 63, math.MaxInt64 - 64, math.MaxInt64 - 2047, math.MinInt64 + 63, math.MinInt64 + 64, math.MinInt64 + 2048, 1 << 54, -1 << 54, 1<<54 - 1, 1 - 1<<54, 1<<54 + 1, -1<<54 - 1, 1 << 62, -1 << 62, 1<<63 - 1<<53, -1<<63 + 1<<53}
	for _, t0 := range []int64{first, -1, 0, 1, final - 3} {
		for _, gap := range []int64{1, 2, 1 << 40, 1<<54 - 1, 1 << 54} {
			if t0+gap > final {
				continue
			}
			for _, d := range far {
				l := at(t0, t0+gap, t0+gap+gap+d)
				// The last time is the one that has wrapped around, and To too.
				if isOne := wrongTimes(l) == api.OK; asTheChapter(t, chunkOf(l)) != isOne {
					t.Errorf("whether %v have a chunk: not %v", l, isOne)
				}
			}
		}
	}
	// A difference of the first two that is as if it were below 0, or 0.
	for _, gap := range []uint64{0, math.MaxUint64, math.MaxUint64 - 4, 1 << 63, 1<<63 - 1, 1<<64 - 1<<53, 1<<54 + 1} {
		for _, t0 := range []int64{first, 0, 5, final} {
			s := signed(t0) + bin(0, 64) + varint(gap) + "0"
			isNone(t, api.Chunk{From: t0, To: t0 + int64(gap), N: 2, Data: pack(s)})
			isNone(t, api.Chunk{From: t0, To: final, N: 2, Data: pack(s)})
		}
	}
	// A first time that there may not be.
	for _, t0 := range beyond {
		isNone(t, api.Chunk{From: t0, To: t0, N: 1, Data: pack(signed(t0) + bin(0, 64))})
		isNone(t, api.Chunk{From: 0, To: 0, N: 1, Data: pack(signed(t0) + bin(0, 64))})
		s := signed(t0) + bin(0, 64) + varint(uint64(0-t0)) + "0"
		isNone(t, api.Chunk{From: t0, To: 0, N: 2, Data: pack(s)})
	}
}

// A step in a row below the first one that has it.
func TestStepsInALongerRow(t *testing.T) {
	rows := []struct {
		mark              string
		size              int
		least, most, plus int64
	}{{"10", 7, -63, 64, 63}, {"110", 9, -255, 256, 255}, {"1110", 12, -2047, 2048, 2047}, {"1111", 64, math.MinInt64, math.MaxInt64, 0}}
	for _, x := range steps {
		for _, row := range rows {
			if x.d < row.least || x.d > row.most {
				continue
			}
			const gap = 1 << 41
			bits := row.mark + bin(uint64(x.d+row.plus), row.size)
			l := at(0, gap, 2*gap+x.d)
			c := chunkOf(l)
			c.Data = pack(head(0, gap) + bits + "0")
			if bits == unspaced(x.bits) {
				isChunk(t, c, l)
			} else {
				isNone(t, c)
			}
		}
	}
	for d := int64(-2300); d <= 2300; d++ {
		for _, row := range rows {
			if row.least <= d && d <= row.most {
				c := chunkOf(at(0, 3000, 6000+d))
				c.Data = pack(head(0, 3000) + row.mark + bin(uint64(d+row.plus), row.size) + "0")
				if errno := gorilla.Check(c); (errno == api.OK) != (timeOf(d) == row.mark+bin(uint64(d+row.plus), row.size)) {
					t.Errorf("a step of %d, marked by %s: %v", d, row.mark, errno)
				}
			}
		}
	}
}
