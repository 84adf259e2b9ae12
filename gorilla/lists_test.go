package gorilla_test

import (
	"math"
	"slices"
	"testing"

	"barograph/api"
	"barograph/gorilla"
)

// leave are the first samples that All yields, up to so many: then the loop is left.
func leave(c api.Chunk, n int) []api.Sample {
	var l []api.Sample
	for s := range gorilla.All(c) {
		l = append(l, s)
		if len(l) == n {
			break
		}
	}
	return l
}

func TestAllIsLeftEarly(t *testing.T) {
	for _, l := range listed() {
		for n := 1; n <= len(l); n++ {
			if got := leave(chunkOf(l), n); !slices.Equal(got, l[:n]) {
				t.Errorf("the first %d of %v are %v", n, l, got)
			}
		}
	}
}

// What is told that the loop is left isn't called any more, and is called no more often than there are samples.
func TestAllEndsWhereItIsTold(t *testing.T) {
	l := many(20)
	for n := 1; n <= 25; n++ {
		calls := 0
		gorilla.All(chunkOf(l))(func(s api.Sample) bool {
			if s != l[calls] {
				t.Errorf("sample %d is %v, not %v", calls, s, l[calls])
			}
			calls++
			return calls < n
		})
		if calls != min(n, 20) {
			t.Errorf("told %d times, not %d", calls, min(n, 20))
		}
	}
}

// The loop can be gone through again, whether it was left or not, and within itself.
func TestAllAgain(t *testing.T) {
	for _, l := range [][]api.Sample{at(7), at(0, 10, 20), many(13)} {
		all := gorilla.All(chunkOf(l))
		for range 3 {
			if got := slices.Collect(all); !slices.Equal(got, l) {
				t.Errorf("%v, not %v", got, l)
			}
			for s := range all {
				if s != l[0] {
					t.Errorf("%v, not %v", s, l[0])
				}
				break
			}
		}
		i := 0
		for s := range all {
			if s != l[i] || !slices.Equal(slices.Collect(all), l) {
				t.Errorf("%v, not %v", s, l[i])
			}
			i++
		}
	}
}

func TestAllOfNoChunk(t *testing.T) {
	for _, l := range listed() {
		c := chunkOf(l)
		c.To++
		isNone(t, c)
		c = chunkOf(l)
		c.N++
		isNone(t, c)
		// What is wrong is behind all samples.
		c = chunkOf(l)
		c.Data = append(slices.Clone(c.Data), 0)
		isNone(t, c)
	}
	for range gorilla.All(api.Chunk{}) {
		t.Error("a sample of none")
	}
	for _, n := range []int{-1, math.MinInt, math.MaxInt} {
		for range gorilla.All(api.Chunk{N: n, Data: make([]byte, 1000)}) {
			t.Errorf("a sample of %d", n)
		}
	}
}

func TestEncodeOfEachNumber(t *testing.T) {
	for _, n := range []int{0, 1, 2, 3, 60, 118, 119, 120, 121, 122, 239, 240, 241, 300, 359, 360, 361, 1000} {
		l := many(n)
		encodes(t, l)
		chunks, errno := gorilla.Encode(l)
		if errno != api.OK || len(chunks) != (n+119)/120 {
			t.Errorf("%d samples are %d chunks, %v", n, len(chunks), errno)
		}
		for i, c := range chunks {
			part := l[i*120 : min(n, i*120+120)]
			if c.N != len(part) || c.From != part[0].T || c.To != part[len(part)-1].T {
				t.Errorf("chunk %d of %d samples is %+v", i, n, c)
			}
			isChunk(t, c, part)
		}
	}
	encodes(t, nil)
	encodes(t, []api.Sample{})
	for _, l := range listed() {
		encodes(t, l)
	}
}

// A chunk begins anew: neither the time nor the number nor the window of the one before matters.
func TestEncodeBeginsAnew(t *testing.T) {
	l := of(slices.Repeat([]uint64{0, 1<<63 + 1, 0b11011 << 40}, 100)...)
	encodes(t, l)
	chunks, _ := gorilla.Encode(l)
	for i, c := range chunks {
		if alone, errno := gorilla.Encode(l[i*120 : min(300, i*120+120)]); errno != api.OK || len(alone) != 1 || !same(alone[0], c) {
			t.Errorf("chunk %d is %+v, alone %+v", i, c, alone)
		}
	}
}

// with has another sample in that place.
func with(l []api.Sample, i int, s api.Sample) []api.Sample {
	l = slices.Clone(l)
	l[i] = s
	return l
}

func TestEncodeOfTimesOutOfRange(t *testing.T) {
	for _, x := range beyond {
		for _, n := range []int{1, 2, 5, 120, 121, 300} {
			l := many(n)
			for _, i := range []int{0, 1, 118, 119, 120, 121, 239, 240, n - 2, n - 1} {
				if i >= 0 && i < n {
					refuses(t, with(l, i, sample(x, 7)), api.ErrRange)
				}
			}
		}
	}
	// What there may be just so.
	encodes(t, at(first))
	encodes(t, at(final))
	encodes(t, at(first, final))
	encodes(t, append(at(first), append(many(300), at(final)...)...))
	refuses(t, at(first-1, 0), api.ErrRange)
	refuses(t, at(0, final+1), api.ErrRange)
}

func TestEncodeOfTimesThatDoNotRise(t *testing.T) {
	for _, n := range []int{2, 5, 120, 121, 240, 241, 300} {
		l := many(n)
		for i := 1; i < n; i++ {
			for _, less := range []int64{0, 1, 1 << 40} {
				refuses(t, with(l, i, sample(l[i-1].T-less, 7)), api.ErrGorillaOrder)
			}
			refuses(t, with(l, i, l[i-1]), api.ErrGorillaOrder)
			if i > 1 {
				refuses(t, with(l, i, l[0]), api.ErrGorillaOrder)
			}
			swapped := slices.Clone(l)
			swapped[i-1], swapped[i] = l[i], l[i-1]
			refuses(t, swapped, api.ErrGorillaOrder)
		}
	}
	refuses(t, at(final, first), api.ErrGorillaOrder)
	refuses(t, at(first, first), api.ErrGorillaOrder)
	refuses(t, at(final, final), api.ErrGorillaOrder)
	refuses(t, at(0, 1, 2, 3, 2, 1), api.ErrGorillaOrder)
}

// A time out of range comes ahead of times that do not rise, wherever it is.
func TestEncodeTellsTheFirstError(t *testing.T) {
	for _, x := range beyond {
		for _, l := range [][]api.Sample{at(5, 5, x), at(x, 5, 5), at(5, x, 5), at(5, 4, x), at(x, x), at(5, 5, 5, x), at(x, x-1), at(7, 6, x, 5)} {
			refuses(t, l, api.ErrRange)
		}
		l := many(300)
		refuses(t, with(with(l, 1, l[0]), 299, sample(x, 7)), api.ErrRange)
		refuses(t, with(with(l, 299, l[298]), 0, sample(x, 7)), api.ErrRange)
		refuses(t, with(with(l, 120, l[119]), 121, sample(x, 7)), api.ErrRange)
	}
}

// decodes asks Decode for samples.
func decodes(t *testing.T, l []api.Chunk, want []api.Sample) {
	t.Helper()
	if got, errno := gorilla.Decode(l); errno != api.OK || !slices.Equal(got, want) {
		t.Errorf("Decode(%+v) = %v, %v, want %v", l, got, errno, want)
	}
}

func TestDecodeOfNone(t *testing.T) {
	decodes(t, nil, nil)
	decodes(t, []api.Chunk{}, nil)
}

// Chunks may be cut anywhere, and have any gap between them, of one at least.
func TestDecodeOfChunksOfAnySize(t *testing.T) {
	l := many(70)
	for _, size := range []int{1, 2, 3, 7, 20, 69, 70} {
		var chunks []api.Chunk
		for part := range slices.Chunk(l, size) {
			chunks = append(chunks, chunkOf(part))
		}
		decodes(t, chunks, l)
	}
	for cut := range 71 {
		var chunks []api.Chunk
		for _, part := range [][]api.Sample{l[:cut], l[cut:]} {
			if len(part) > 0 {
				chunks = append(chunks, chunkOf(part))
			}
		}
		decodes(t, chunks, l)
	}
	decodes(t, []api.Chunk{chunkOf(at(0, 10)), chunkOf(at(11)), chunkOf(at(12, 13))}, at(0, 10, 11, 12, 13))
	decodes(t, []api.Chunk{chunkOf(at(first)), chunkOf(at(final))}, at(first, final))
	decodes(t, []api.Chunk{chunkOf(full()), chunkOf(at(final-1, final))}, append(full(), at(final-1, final)...))
}

func TestDecodeOfChunksInTheWrongOrder(t *testing.T) {
	a, b, c := chunkOf(at(0, 10)), chunkOf(at(11, 15, 20)), chunkOf(at(21, 30))
	decodes(t, []api.Chunk{a, b, c}, at(0, 10, 11, 15, 20, 21, 30))
	decodes(t, []api.Chunk{a, c}, at(0, 10, 21, 30))
	for _, l := range [][]api.Chunk{
		{b, a}, {a, a}, {a, c, b}, {b, a, c}, {c, b, a}, {a, b, b}, {b, c, a}, {c, a, b}, {a, b, c, a}, {a, b, c, c},
		{a, chunkOf(at(10))}, {a, chunkOf(at(10, 11))}, {a, chunkOf(at(9, 100))}, {a, chunkOf(at(0, 10))}, {a, chunkOf(at(-5, 100))}, {a, chunkOf(at(-5, 5))}, {a, chunkOf(at(-5, -4))},
		{chunkOf(at(7)), chunkOf(at(7))}, {chunkOf(at(final)), chunkOf(at(first))}, {chunkOf(at(first, final)), chunkOf(at(0))}, {chunkOf(at(final)), chunkOf(at(final))},
	} {
		fails(t, l, api.ErrGorillaOrder)
	}
	chunks, _ := gorilla.Encode(many(500))
	for i := range chunks {
		for j := range i {
			l := slices.Clone(chunks)
			l[i], l[j] = l[j], l[i]
			fails(t, l, api.ErrGorillaOrder)
			l[j] = l[i]
			fails(t, l, api.ErrGorillaOrder)
		}
	}
}

// wrong are some that are no chunks.
func wrong() []api.Chunk {
	a := chunkOf(at(0, 10, 20))
	short, long, other := a, a, a
	short.Data = a.Data[:len(a.Data)-1]
	long.Data = append(slices.Clone(a.Data), 0)
	other.Data = append(slices.Clone(a.Data[:10]), 1)
	l := []api.Chunk{{}, {N: 1}, {N: -1}, short, long, other, chunkOf(at(0, 0)), chunkOf(many(121)), chunkOf(at(final + 1)), {From: 5, To: 5, N: 1, Data: a.Data[:9]}}
	for _, n := range []int{0, 1, 2, 4, 120, -3} {
		c := a
		c.N = n
		l = append(l, c)
	}
	return l
}

func TestDecodeOfOneThatIsNone(t *testing.T) {
	good, _ := gorilla.Encode(many(500))
	for _, c := range wrong() {
		isNone(t, c)
		for i := range good {
			l := slices.Clone(good)
			l[i] = c
			fails(t, l, api.ErrGorillaForm)
			fails(t, slices.Insert(slices.Clone(good), i, c), api.ErrGorillaForm)
		}
		fails(t, append(slices.Clone(good), c), api.ErrGorillaForm)
		fails(t, []api.Chunk{c, c}, api.ErrGorillaForm)
	}
}

// One that is none comes ahead of the order, wherever it is.
func TestDecodeTellsTheFirstError(t *testing.T) {
	a, b := chunkOf(at(0, 10)), chunkOf(at(11, 20))
	for _, c := range wrong() {
		for _, l := range [][]api.Chunk{{b, a, c}, {c, b, a}, {b, c, a}, {a, a, c}, {c, a, a}, {b, a, a, b, a, c}} {
			fails(t, l, api.ErrGorillaForm)
		}
	}
	// With From and To in order or not, but not those of the samples.
	late := a
	late.From, late.To = 100, 110
	fails(t, []api.Chunk{a, b, late}, api.ErrGorillaForm)
	fails(t, []api.Chunk{late, b}, api.ErrGorillaForm)
}
