package gorilla_test

import (
	"bytes"
	"math"
	"slices"
	"testing"

	"barograph/api"
	"barograph/gorilla"
)

// listed are samples of many kinds, each of which have a chunk.
func listed() [][]api.Sample {
	return [][]api.Sample{
		at(0), at(first), at(final), at(-1), at(0, 1), at(first, final), at(0, 10, 20), at(first, 0, final), at(5, 6, 7, 8, 9, 10, 11, 12, 13, 14, 15),
		at(0, 100, 263, 363, 400), at(0, 1000, 2255, 3000), at(0, 10000, 20000, 32047, 33000, 1000000), at(-500, -400, 1<<40, 1<<40+1),
		of(0, 1<<63), of(1, 1, 2, 3, 5, 8, 13, 21), of(math.MaxUint64, 0, math.MaxUint64), of(0x7ff8000000000001, 0xfff8000000000000, 0x7ff0000000000001),
		changed(0, 0b11011<<40, 0, 0b11<<40, 1<<39), changed(0, 1<<63+1, 1, 1<<63, 1<<31), changed(7, 1<<32, 1<<33, 1<<20, 1),
		many(2), many(3), many(4), many(10), many(31), many(119), many(120), of(slices.Repeat([]uint64{9}, 120)...),
	}
}

func TestCheckOfWhatChunkAnswers(t *testing.T) {
	for _, l := range listed() {
		c := appended(t, l).Chunk()
		if !same(c, chunkOf(l)) {
			t.Errorf("the chunk of %v is %+v", l, c)
		}
		isChunk(t, c, l)
		if !asTheChapter(t, c) {
			t.Errorf("%+v is no chunk", c)
		}
	}
}

// No samples have no chunk: one has from 1 to 120.
func TestCheckOfNone(t *testing.T) {
	isNone(t, api.Chunk{})
	isNone(t, gorilla.New().Chunk())
	isNone(t, api.Chunk{Data: []byte{}})
	isNone(t, api.Chunk{Data: []byte{0}})
	isNone(t, api.Chunk{N: 1})
	isNone(t, api.Chunk{N: 1, Data: []byte{0}})
	isNone(t, api.Chunk{From: 5, To: 5})
	isNone(t, api.Chunk{Data: make([]byte, 9)})
	isChunk(t, api.Chunk{N: 1, Data: make([]byte, 9)}, []api.Sample{{}})
}

func TestCheckOfOtherFroms(t *testing.T) {
	for _, l := range listed() {
		for _, x := range append(slices.Concat(within, beyond), l[0].T-1, l[0].T+1, -l[0].T, l[0].T^1<<32, l[0].T^1<<62, l[0].T^math.MinInt64, l[len(l)-1].T) {
			c := chunkOf(l)
			if x != c.From {
				c.From = x
				isNone(t, c)
			}
			c = chunkOf(l)
			if x != c.To {
				c.To = x
				isNone(t, c)
			}
			c = chunkOf(l)
			if x != c.From || x != c.To {
				c.From, c.To = x, x
				isNone(t, c)
			}
		}
		if c := chunkOf(l); c.From != c.To {
			c.From, c.To = c.To, c.From
			isNone(t, c)
		}
	}
}

func TestCheckOfOtherNumbersOfSamples(t *testing.T) {
	for _, l := range listed() {
		for n := -3; n < 130; n++ {
			c := chunkOf(l)
			if n != c.N {
				c.N = n
				isNone(t, c)
				// With the To of so many samples: what follows them is still one too many.
				if n > 0 && n < len(l) {
					c.To = l[n-1].T
					asTheChapter(t, c)
				}
			}
		}
		for _, n := range []int{math.MinInt, math.MinInt + 1, math.MinInt32, -1 << 32, 1 << 8, len(l) + 1<<8, 1 << 16, 1<<31 - 1, 1 << 31, 1 << 32, len(l) + 1<<32, math.MaxInt - 1, math.MaxInt, -len(l)} {
			c := chunkOf(l)
			c.N = n
			isNone(t, c)
		}
	}
}

// The data of more samples than a chunk may have is that of none.
func TestCheckOfTooManySamples(t *testing.T) {
	for _, l := range [][]api.Sample{many(121), many(122), many(300), of(slices.Repeat([]uint64{9}, 124)...)} {
		isNone(t, chunkOf(l))
		c := chunkOf(l)
		c.N, c.To = 120, l[119].T
		isNone(t, c)
		isChunk(t, chunkOf(l[:120]), l[:120])
	}
	// The zero bits behind 120 samples of the same number may be up to four more, but for how many they are.
	same := slices.Repeat([]uint64{9}, 121)
	isNone(t, chunkOf(of(same...)))
	isChunk(t, chunkOf(of(same[:120]...)), of(same[:120]...))
}

// Every other value of every byte is told, or is the chunk of other samples.
func TestCheckOfChangedBytes(t *testing.T) {
	for _, l := range listed() {
		chunk := chunkOf(l)
		for i := 0; i < len(chunk.Data); i += 1 + len(chunk.Data)/60 {
			for b := range 256 {
				if len(l) > 20 && b%16 != i%16 {
					continue
				}
				c := chunk
				c.Data = slices.Clone(c.Data)
				c.Data[i] = byte(b)
				asTheChapter(t, c)
				c = framed(c.Data, c.N)
				if asTheChapter(t, c) && byte(b) != chunk.Data[i] && slices.Equal(collect(c), l) {
					t.Errorf("byte %d of the chunk of %v may be %x too", i, l, b)
				}
			}
		}
	}
}

func TestCheckOfBytesLeftOutAndAdded(t *testing.T) {
	for _, l := range listed() {
		chunk := chunkOf(l)
		c := chunk
		for i := 0; i <= len(chunk.Data); i += 1 + len(chunk.Data)/60 {
			if i < len(chunk.Data) {
				c.Data = slices.Delete(slices.Clone(chunk.Data), i, i+1)
				asTheChapter(t, c)
				asTheChapter(t, framed(c.Data, c.N))
				c.Data = chunk.Data[:i]
				isNone(t, c)
			}
			for _, b := range []byte{0, 1, 0x40, 0x7f, 0x80, 0xc0, 0xff} {
				c.Data = slices.Insert(slices.Clone(chunk.Data), i, b)
				asTheChapter(t, c)
				asTheChapter(t, framed(c.Data, c.N))
			}
		}
		c.Data = chunk.Data[:len(chunk.Data)-1]
		isNone(t, c)
		for b := range 256 {
			c.Data = append(slices.Clone(chunk.Data), byte(b))
			isNone(t, c)
		}
		c.Data = append(slices.Clone(chunk.Data), make([]byte, 1<<16)...)
		isNone(t, c)
		c.Data = slices.Concat(chunk.Data, chunk.Data)
		isNone(t, c)
		c.Data = nil
		isNone(t, c)
	}
}

// Each bit behind the last one, set alone and with others.
func TestCheckOfBitsBehindTheLastOne(t *testing.T) {
	lengths := map[int]int{}
	lists := listed()
	for size := range 8 {
		lists = append(lists, changed(0, shape(0, 63-size)), of(slices.Repeat([]uint64{9}, 2+size)...))
	}
	for _, l := range lists {
		chunk := chunkOf(l)
		free := 8*len(chunk.Data) - len(written(l))
		lengths[free]++
		for bits := byte(1); int(bits) < 1<<free; bits++ {
			c := chunk
			c.Data = slices.Clone(c.Data)
			c.Data[len(c.Data)-1] |= bits
			isNone(t, c)
		}
	}
	if len(lengths) != 8 {
		t.Errorf("so many bits were free: %v", lengths)
	}
}

// tail makes a chunk of two samples or more: their first one is 0 at 0, the second one is at 10, and these bits are behind its time. To is what the bits tell as far as the times are all in the first row.
func tail(n int, bits string) api.Chunk {
	return api.Chunk{To: int64(n-1) * 10, N: n, Data: pack(signed(0) + bin(0, 64) + varint(10) + unspaced(bits))}
}

// Numbers that are written as the chapter would not: each is held against one that is, and differs by little.
func TestCheckOfNumbersWrittenOtherwise(t *testing.T) {
	for _, x := range []struct {
		n     int
		right bool
		bits  string
	}{
		// the same number
		{2, true, "0"},
		{2, false, "11 00000 000000 0"},
		{2, false, "11 00000 111111 " + zeros(64)},
		{2, false, "11 11111 100000 " + zeros(33)},
		{2, false, "11 11111 000000 0"},
		// within a window, while there is none
		{2, false, "10"},
		{2, false, "10 1"},
		{2, false, "10 " + zeros(64)},
		{2, false, "10 " + ones(64)},
		{2, false, "10 1" + zeros(63)},
		{3, false, "10 0 0"},
		// too few leading zero bits are told, too few trailing ones, or both
		{2, true, "11 10011 000100 11011"},
		{2, false, "11 10010 000101 011011"},
		{2, false, "11 10011 000101 110110"},
		{2, false, "11 10010 000110 0110110"},
		{2, false, "11 00000 111111 " + zeros(19) + "11011" + zeros(40)},
		{2, false, "11 10011 000100 01011"},
		{2, false, "11 10011 000100 11010"},
		{2, false, "11 10011 000100 00000"},
		// 31 leading zero bits that are told may be more
		{2, true, "11 11111 000000 1"},
		{2, true, "11 11111 000100 00001"},
		{2, false, "11 11111 000100 00010"},
		{2, false, "11 11110 000100 01001"},
		{2, true, "11 11110 000100 11001"},
		{2, true, "11 11111 100000 " + zeros(32) + "1"},
		// beyond the lowest bit
		{2, true, "11 00000 111111 1" + zeros(62) + "1"},
		{2, false, "11 00001 111111 1" + zeros(62) + "1"},
		{2, true, "11 00001 111110 1" + zeros(61) + "1"},
		{2, false, "11 11111 100001 " + ones(34)},
		{2, false, "11 11111 111111 " + ones(64)},
		{2, false, "11 11110 100010 " + ones(35)},
		{2, true, "11 11110 100001 " + ones(34)},
		{2, false, "11 10000 110000 " + ones(49)},
		{2, true, "11 10000 101111 " + ones(48)},
		// a new window where the old one serves
		{3, true, "11 10011 000100 11011 0 10 11011"},
		{3, false, "11 10011 000100 11011 0 11 10011 000100 11011"},
		{3, true, "11 10011 000100 11011 0 10 00010"},
		{3, false, "11 10011 000100 11011 0 11 10110 000000 1"},
		{3, false, "11 11111 000100 00001 0 11 11111 000100 00001"},
		{3, true, "11 11111 000100 00001 0 10 00001"},
		{3, true, "11 11111 000100 00001 0 11 11111 000101 000001"},
		{3, true, "11 10011 000100 11011 0 11 10010 000000 1"},
		{4, false, "11 10011 000100 11011 0 11 10010 000000 1 0 10 0"},
		{4, true, "11 10011 000100 11011 0 11 10010 000000 1 0 10 1"},
		// the same number, within a window
		{3, true, "11 10011 000100 11011 0 0"},
		{3, false, "11 10011 000100 11011 0 10 00000"},
		{3, false, "11 10011 000100 11011 0 11 10011 000100 00000"},
		// the wrong window beyond the lowest bit, and what would go on behind it
		{3, false, "11 11111 111111 " + ones(64) + " 0 0"},
		{3, false, "11 10011 000100 11011 0 11 11111 100001 " + ones(34)},
	} {
		c := tail(x.n, x.bits)
		if asTheChapter(t, c) != x.right {
			t.Errorf("%d samples, %s: not %v", x.n, x.bits, x.right)
		}
		if x.right && !same(c, chunkOf(collect(c))) {
			t.Errorf("%d samples, %s: %v", x.n, x.bits, collect(c))
		}
	}
}

// Samples of times that do not rise, or that there may not be, written as others are.
func TestCheckOfWrongTimes(t *testing.T) {
	for _, times := range [][]int64{
		{0, 0}, {0, -1}, {0, 10, 10}, {0, 10, 9}, {0, 10, 20, 20}, {0, 10, 20, 15, 30}, {5, 4, 3}, {0, 1000, 500, 2000},
		{final + 1}, {first - 1}, {first - 1, 0}, {0, final + 1}, {0, 10, final + 1}, {final - 1, final, final + 1}, {first - 1, first, first + 1}, {0, final + 1, final + 2},
		{math.MinInt64}, {math.MaxInt64}, {math.MinInt64, math.MaxInt64}, {math.MaxInt64, math.MinInt64}, {0, math.MinInt64, 10}, {0, math.MaxInt64}, {final, first}, {final, final}, {first, first},
	} {
		isNone(t, chunkOf(at(times...)))
	}
}

// Every end of up to so many bits, behind the time of the second sample or behind a window.
func TestCheckOfAllShortTails(t *testing.T) {
	right := 0
	for _, before := range []struct {
		bits    string
		samples int
	}{{"", 2}, {"11 11110 000001 11", 3}, {"11 11110 000001 11 0", 3}, {"11 11111 000010 001 0 10 100 0", 4}, {"11 00000 000000 1 0 1", 3}, {"11 10011 000100 11011 0 11 10", 3}} {
		for size := range 13 {
			for v := range uint64(1) << size {
				for n := before.samples; n <= before.samples+2; n++ {
					if asTheChapter(t, tail(n, before.bits+bin(v, size))) {
						right++
					}
				}
			}
		}
		if t.Failed() {
			return
		}
	}
	if right < 100 {
		t.Errorf("only %d are chunks", right)
	}
}

// Data that is one bit, or byte, again and again.
func TestCheckOfEvenData(t *testing.T) {
	for b := range 256 {
		for _, size := range []int{1, 2, 8, 9, 10, 11, 12, 20, 24, 25, 40, 300} {
			for _, n := range []int{1, 2, 3, 9, 120, 121} {
				asTheChapter(t, framed(bytes.Repeat([]byte{byte(b)}, size), n))
			}
		}
		isNone(t, api.Chunk{N: 120, Data: bytes.Repeat([]byte{byte(b)}, 1<<16)})
	}
	isChunk(t, api.Chunk{To: 1190, N: 120, Data: append(make([]byte, 9), bytesOf("0a"+zeros(60))...)}, of(make([]uint64, 120)...))
}
