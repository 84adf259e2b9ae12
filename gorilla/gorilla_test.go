package gorilla_test

import (
	"bytes"
	"iter"
	"math"
	"slices"
	"testing"

	"barograph/api"
	"barograph/gorilla"
)

// The calls have these signatures.
var (
	_ func() *gorilla.Appender                      = gorilla.New
	_ func(*gorilla.Appender, api.Sample) api.Errno = (*gorilla.Appender).Append
	_ func(*gorilla.Appender) api.Chunk             = (*gorilla.Appender).Chunk
	_ func(api.Chunk) api.Errno                     = gorilla.Check
	_ func(api.Chunk) iter.Seq[api.Sample]          = gorilla.All
	_ func([]api.Sample) ([]api.Chunk, api.Errno)   = gorilla.Encode
	_ func([]api.Chunk) ([]api.Sample, api.Errno)   = gorilla.Decode
)

func TestExampleOfThreeSamples(t *testing.T) {
	l := at(0, 10, 20)
	c := appended(t, l).Chunk()
	if c.From != 0 || c.To != 20 || c.N != 3 || !bytes.Equal(c.Data, bytesOf("00 3ff0000000000000 0a 00")) {
		t.Errorf("%+v", c)
	}
	isChunk(t, c, l)
	c.N = 2
	isNone(t, c)
	c.N = 3
	c.Data[10] = 1
	isNone(t, c)
}

func TestExampleOfErrors(t *testing.T) {
	a := appended(t, at(5))
	if errno := a.Append(sample(5, 7)); errno != api.ErrGorillaOrder {
		t.Error(errno)
	}
	if errno := a.Append(sample(1<<53+1, 7)); errno != api.ErrRange {
		t.Error(errno)
	}
	if c := gorilla.New().Chunk(); c.N != 0 {
		t.Errorf("%+v", c)
	}
}

func TestErrorsAndLimitsHaveTheirNumbers(t *testing.T) {
	if api.ErrRange != 2 || api.ErrGorillaOrder != 100 || api.ErrGorillaForm != 101 || api.ErrGorillaMany != 102 || api.ChunkSize != 120 || api.MaxTime != 1<<53 {
		t.Error("package api has others")
	}
}

// beyond are times that there may not be; some of them are others once they are cut to fewer bits.
var beyond = []int64{first - 1, final + 1, first - 2, final + 2, -1 << 54, 1 << 54, 1<<54 + 5, math.MinInt64, math.MaxInt64, math.MinInt64 + 1, math.MaxInt64 - 1, math.MinInt64 + 1<<53, math.MaxInt64 - 1<<53, 1<<62 + 100}

// within are times that there may be, up to both ends.
var within = []int64{first, first + 1, first + 2, -1 << 52, -1 << 40, -1 << 31, -1<<31 - 1, -1 << 32, -300, -2, -1, 0, 1, 2, 300, 1<<31 - 1, 1 << 31, 1 << 32, 1 << 40, 1 << 52, final - 2, final - 1, final}

// appends asks an appender of l for what it says of one more, and for the chunk that there is then.
func appends(t *testing.T, l []api.Sample, s api.Sample, want api.Errno) {
	t.Helper()
	a := appended(t, l)
	if errno := a.Append(s); errno != want {
		t.Errorf("Append(%v) behind %d samples, the last of which is %v: %v, want %v", s, len(l), l[max(0, len(l)-1):], errno, want)
	}
	if want == api.OK {
		l = append(slices.Clone(l), s)
	}
	holds(t, a, l)
}

func TestAppendOfAnyTime(t *testing.T) {
	for _, x := range within {
		appends(t, nil, sample(x, 7), api.OK)
		for _, y := range within {
			want := api.OK
			if y <= x {
				want = api.ErrGorillaOrder
			}
			appends(t, at(x), sample(y, 7), want)
			for _, z := range within {
				if x >= y {
					break
				}
				want := api.OK
				if z <= y {
					want = api.ErrGorillaOrder
				}
				appends(t, at(x, y), sample(z, 7), want)
			}
		}
	}
}

func TestAppendOfTimesOutOfRange(t *testing.T) {
	for _, x := range beyond {
		for _, l := range [][]api.Sample{nil, at(first), at(0), at(final), at(first, 0), at(first, final), at(0, 10, 20), many(7), many(119), full()} {
			appends(t, l, sample(x, 7), api.ErrRange)
		}
	}
	appends(t, at(first, 0), sample(final, 7), api.OK)
	appends(t, at(first, first+1), sample(final, 7), api.OK)
	appends(t, at(first, final-1), sample(final, 7), api.OK)
	appends(t, at(first, first+1, final-1), sample(final, 7), api.OK)
}

// Behind each number of samples, a time that is the last one's, less, or greater.
func TestAppendOfTimesInOrder(t *testing.T) {
	for n := 1; n < 120; n++ {
		l := many(n)
		last := l[n-1]
		a := appended(t, l)
		refused := slices.Clone(l)
		for _, less := range []int64{0, 1, 2, 9, 1 << 20, 1 << 50} {
			refused = append(refused, sample(last.T-less, 7), sample(last.T-less, uint64(last.V)))
		}
		for _, s := range refused {
			if errno := a.Append(s); errno != api.ErrGorillaOrder {
				t.Errorf("Append(%v) behind %d samples, the last of which is %v: %v", s, n, last, errno)
			}
		}
		holds(t, a, l)
		for _, more := range []int64{1, 2, 9, 1 << 20, 1 << 50} {
			appends(t, l, sample(last.T+more, 7), api.OK)
		}
	}
}

func TestAppendOfThe120thAndThe121st(t *testing.T) {
	l := full()
	appends(t, l[:118], l[118], api.OK)
	appends(t, l[:119], l[119], api.OK)
	for _, more := range []int64{1, 2, 1000, 1 << 40} {
		appends(t, l, sample(l[119].T+more, 7), api.ErrGorillaMany)
		appends(t, l, sample(l[119].T+more, uint64(l[119].V)), api.ErrGorillaMany)
	}
	appends(t, l, sample(final, 0), api.ErrGorillaMany)
	a := appended(t, l)
	for i := range int64(300) {
		if errno := a.Append(sample(l[119].T+1+i, uint64(i))); errno != api.ErrGorillaMany {
			t.Fatal(i, errno)
		}
	}
	holds(t, a, l)
}

// The time's range comes ahead of its order, and that ahead of how many there are.
func TestAppendTellsTheFirstError(t *testing.T) {
	l := full()
	last := l[119].T
	for _, x := range beyond {
		appends(t, l, sample(x, 7), api.ErrRange)         // with too many; also less than the last one
		appends(t, l[:50], sample(x, 7), api.ErrRange)    // less than the last one, or not
		appends(t, at(final), sample(x, 7), api.ErrRange) // as above
	}
	for _, less := range []int64{0, 1, 1000, 1 << 40} {
		appends(t, l, sample(last-less, 7), api.ErrGorillaOrder)
	}
	appends(t, l, l[0], api.ErrGorillaOrder)
	appends(t, l, sample(first, 7), api.ErrGorillaOrder)
	appends(t, l, sample(last+1, 7), api.ErrGorillaMany)
}

// A sample that is refused leaves nothing behind: neither in the chunk, nor in how the next ones are written.
func TestRefusedSamplesChangeNothing(t *testing.T) {
	l := full()
	a := gorilla.New()
	refused := func(s api.Sample, want api.Errno) {
		t.Helper()
		if errno := a.Append(s); errno != want {
			t.Errorf("Append(%v) = %v, want %v", s, errno, want)
		}
	}
	for i, s := range l {
		refused(sample(final+1, 0xffff), api.ErrRange)
		refused(sample(first-1, uint64(s.V)), api.ErrRange)
		refused(sample(math.MaxInt64, 1), api.ErrRange)
		if i > 0 {
			refused(sample(l[i-1].T, 1<<63), api.ErrGorillaOrder)
			refused(sample(l[i-1].T-1, 0x5555555555555555), api.ErrGorillaOrder)
			refused(l[0], api.ErrGorillaOrder)
		}
		holds(t, a, l[:i])
		if errno := a.Append(s); errno != api.OK {
			t.Error(errno)
		}
		holds(t, a, l[:i+1])
	}
	refused(sample(l[119].T+1, 3), api.ErrGorillaMany)
	refused(sample(l[119].T, 3), api.ErrGorillaOrder)
	refused(sample(math.MinInt64, 3), api.ErrRange)
	holds(t, a, l)
}

// Also where the refused one came first of all.
func TestRefusedFirstSampleChangesNothing(t *testing.T) {
	for _, x := range beyond {
		a := gorilla.New()
		if errno := a.Append(sample(x, 0xffff)); errno != api.ErrRange {
			t.Error(errno)
		}
		holds(t, a, nil)
		for _, s := range at(-3, 0, 10, 20) {
			if errno := a.Append(s); errno != api.OK {
				t.Error(errno)
			}
		}
		holds(t, a, at(-3, 0, 10, 20))
	}
}

func TestChunkOfNone(t *testing.T) {
	for _, a := range []*gorilla.Appender{gorilla.New(), gorilla.New()} {
		c := a.Chunk()
		if c.From != 0 || c.To != 0 || c.N != 0 || len(c.Data) != 0 {
			t.Errorf("%+v", c)
		}
		holds(t, a, nil)
		if errno := a.Append(sample(-7, 5)); errno != api.OK {
			t.Error(errno)
		}
		holds(t, a, []api.Sample{sample(-7, 5)})
	}
}

func TestChunkOfOne(t *testing.T) {
	for _, x := range []struct {
		s    api.Sample
		data string
	}{
		{sample(0, 0), "00 0000000000000000"},
		{sample(5, 0x3ff0000000000000), "0a 3ff0000000000000"},
		{sample(-1, 1), "01 0000000000000001"},
		{sample(-64, math.MaxUint64), "7f ffffffffffffffff"},
		{sample(64, 1<<63), "8001 8000000000000000"},
		{sample(150, 0x0123456789abcdef), "ac02 0123456789abcdef"},
		{sample(final, 0x7ff8000000000001), "808080808080 8020 7ff8000000000001"},
		{sample(first, 0xfff0000000000000), "ffffffffffff ff1f fff0000000000000"},
	} {
		c := appended(t, []api.Sample{x.s}).Chunk()
		if c.From != x.s.T || c.To != x.s.T || c.N != 1 || !bytes.Equal(c.Data, bytesOf(x.data)) {
			t.Errorf("the chunk of %v is %+v, not %s", x.s, c, x.data)
		}
		isChunk(t, c, []api.Sample{x.s})
	}
}

func TestChunkOfTwo(t *testing.T) {
	for _, x := range []struct {
		l    []api.Sample
		data string
	}{
		{at(0, 1), "00 3ff0000000000000 01 00"},
		{at(-1, 126), "01 3ff0000000000000 7f 00"},
		{at(0, 128), "00 3ff0000000000000 8001 00"},
		{at(first, final), "ffffffffffff ff1f 3ff0000000000000 808080808080 8020 00"},
		// 11, 00000, 000000, 1
		{[]api.Sample{sample(0, 0), sample(10, 1<<63)}, "00 0000000000000000 0a c004"},
		// 11, 01011, 000000, 1
		{[]api.Sample{sample(0, 0x3ff0000000000000), sample(10, 0x3fe0000000000000)}, "00 3ff0000000000000 0a d604"},
		// 11, 11111, 100000, 0..01
		{[]api.Sample{sample(0, 0), sample(10, 1)}, "00 0000000000000000 0a ff0000000004"},
	} {
		c := appended(t, x.l).Chunk()
		if c.From != x.l[0].T || c.To != x.l[1].T || c.N != 2 || !bytes.Equal(c.Data, bytesOf(x.data)) {
			t.Errorf("the chunk of %v is %+v, not %s", x.l, c, x.data)
		}
		isChunk(t, c, x.l)
	}
}

// After each sample there is the chunk of those so far, asked for once or twice; and it does not matter whether it was asked for ahead of the next one.
func TestChunkOfEachNumber(t *testing.T) {
	for _, l := range [][]api.Sample{full(), of(slices.Repeat([]uint64{7}, 120)...), of(slices.Repeat([]uint64{0, math.MaxUint64, 1}, 40)...)} {
		a := gorilla.New()
		for i, s := range l {
			if errno := a.Append(s); errno != api.OK {
				t.Error(errno)
			}
			holds(t, a, l[:i+1])
			holds(t, a, l[:i+1])
			isChunk(t, a.Chunk(), l[:i+1])
		}
		holds(t, appended(t, l), l)
	}
}

func TestAppendersAreIndependent(t *testing.T) {
	l := full()
	a, b := gorilla.New(), gorilla.New()
	for i := range l {
		a.Append(l[i])
		if i%2 == 1 {
			b.Append(l[i])
		}
	}
	var odd []api.Sample
	for i := 1; i < 120; i += 2 {
		odd = append(odd, l[i])
	}
	holds(t, a, l)
	holds(t, b, odd)
}
