package gorilla_test

import (
	"slices"
	"testing"

	"barograph/api"
	"barograph/gorilla"
)

// gap is a drawn difference of times, near the one before or not.
func (d *dice) gap(last int64) int64 {
	near := func(n int64) int64 { return last - n + int64(d.below(int(2*n+1))) }
	switch d.below(8) {
	case 0, 1:
		return last
	case 2:
		return near(66)
	case 3:
		return near(258)
	case 4:
		return near(2050)
	case 5:
		return int64(1) << d.below(46)
	case 6:
		return 1 + int64(d.number()>>(19+d.below(44)))
	}
	return 1 + int64(d.below(20000))
}

// change are drawn bits in which a number differs from the one before.
func (d *dice) change() uint64 {
	size := 1 + d.below(64)
	switch d.below(9) {
	case 0, 1:
		return 0
	case 2:
		return d.number()
	case 3:
		return 1 << d.below(64)
	case 4:
		return shape(d.below(32), d.below(32))
	case 5:
		return d.number() << 40 >> 12
	case 6:
		return d.number() & (1<<32 - 1) << d.below(3)
	}
	return d.number() >> (64 - size) << d.below(65-size)
}

// samples are drawn ones, which have chunks.
func (d *dice) samples(n int) []api.Sample {
	s := sample(int64(d.number()>>(10+d.below(54)))-int64(d.number()>>(10+d.below(54))), d.number())
	if s.T < first {
		s.T = first
	}
	if d.below(10) == 0 {
		s.T = first
	}
	s.T = min(s.T, final)
	gap := int64(1 + d.below(100000))
	var l []api.Sample
	for range n {
		l = append(l, s)
		gap = max(1, d.gap(gap))
		if final-s.T < gap {
			gap = max(1, (final-s.T)/int64(2+d.below(200)))
		}
		if s.T == final {
			break
		}
		s.T += gap
		switch d.below(12) {
		case 0:
			s.V = 0x7ff8000000000001
		case 1:
			s.V = api.Num(0x7ff0000000000000 | d.number())
		default:
			s.V ^= api.Num(d.change())
		}
	}
	return l
}

// All of Chunk are the samples, bit for bit; and the chunk is the one that the chapter writes.
func TestDrawnChunks(t *testing.T) {
	d := dice(3)
	sizes := map[int]int{}
	for range 4000 {
		l := d.samples(1 + d.below(1+d.below(120)))
		a := appended(t, l)
		holds(t, a, l)
		isChunk(t, a.Chunk(), l)
		sizes[len(l)/40]++
		if t.Failed() {
			return
		}
	}
	if sizes[0] < 1000 || sizes[1] < 300 || sizes[2] < 50 {
		t.Errorf("chunks of %v sizes", sizes)
	}
}

// Every row of the table of times, and every way of a number, is drawn often.
func TestDrawnSamplesAreOfEachWay(t *testing.T) {
	d := dice(5)
	rows, ways := map[int]int{}, map[string]int{}
	for range 1000 {
		l := d.samples(50)
		var w opened
		for i := 2; i < len(l); i++ {
			rows[len(timeOf((l[i].T-l[i-1].T)-(l[i-1].T-l[i-2].T)))]++
			bits, next := numberOf(uint64(l[i].V^l[i-1].V), w)
			ways[(bits + "0")[:2]]++
			w = next
		}
	}
	for _, size := range []int{1, 9, 12, 16, 68} {
		if rows[size] < 1500 {
			t.Errorf("a time of %d bits: %d times", size, rows[size])
		}
	}
	for _, way := range []string{"00", "10", "11"} {
		if ways[way] < 1500 {
			t.Errorf("a number marked by %s: %d times", way, ways[way])
		}
	}
}

// Decode reverses Encode.
func TestDrawnLists(t *testing.T) {
	d := dice(7)
	for range 600 {
		encodes(t, d.samples(d.below(1+d.below(700))))
		if t.Failed() {
			return
		}
	}
}

// Lists that have no chunks, for one reason or for more, as the chapter says.
func TestDrawnListsWithFaults(t *testing.T) {
	d := dice(11)
	told := map[api.Errno]int{}
	for range 1500 {
		l := d.samples(2 + d.below(300))
		for range d.below(4) {
			i := d.below(len(l))
			switch d.below(4) {
			case 0:
				l[i].T = beyond[d.below(len(beyond))]
			case 1:
				l[i].T = l[d.below(len(l))].T
			case 2:
				j := d.below(len(l))
				l[i], l[j] = l[j], l[i]
			default:
				l[i].T = within[d.below(len(within))]
			}
		}
		encodes(t, l)
		told[wrongTimes(l)]++
		if wrongTimes(l) != api.OK {
			refuses(t, l, wrongTimes(l))
			isNone(t, chunkOf(l))
		}
		if t.Failed() {
			return
		}
	}
	for _, errno := range []api.Errno{api.OK, api.ErrRange, api.ErrGorillaOrder} {
		if told[errno] < 200 {
			t.Errorf("%v holds of %d drawn lists only", errno, told[errno])
		}
	}
}

// What an appender says of any samples is what the chapter says, and only those that it takes are there.
func TestDrawnAppends(t *testing.T) {
	d := dice(13)
	told := map[api.Errno]int{}
	for range 300 {
		a := gorilla.New()
		var taken []api.Sample
		for range 1 + d.below(250) {
			s := sample(int64(d.below(300)), d.number())
			if len(taken) > 0 {
				s.T = taken[len(taken)-1].T + d.gap(1) - int64(d.below(2)*d.below(3)*1000)
			}
			if d.below(15) == 0 {
				s.T = beyond[d.below(len(beyond))]
			}
			want := api.OK
			switch {
			case s.T < first || s.T > final:
				want = api.ErrRange
			case len(taken) > 0 && s.T <= taken[len(taken)-1].T:
				want = api.ErrGorillaOrder
			case len(taken) == 120:
				want = api.ErrGorillaMany
			default:
				taken = append(taken, s)
			}
			if errno := a.Append(s); errno != want {
				t.Fatalf("Append(%v) behind %d samples: %v, want %v", s, len(taken), errno, want)
			}
			told[want]++
			if d.below(20) == 0 {
				holds(t, a, taken)
			}
		}
		holds(t, a, taken)
		if t.Failed() {
			return
		}
	}
	for _, errno := range []api.Errno{api.OK, api.ErrRange, api.ErrGorillaOrder, api.ErrGorillaMany} {
		if told[errno] < 300 {
			t.Errorf("%v holds of %d drawn samples only", errno, told[errno])
		}
	}
}

// spoilt is a chunk with a drawn change, of its bytes or of what is said of them.
func (d *dice) spoilt(c api.Chunk) api.Chunk {
	c.Data = slices.Clone(c.Data)
	i := d.below(len(c.Data))
	switch d.below(9) {
	case 0, 1:
		c.Data[i] ^= 1 << d.below(8)
	case 2:
		c.Data[i] = byte(d.number())
	case 3:
		c.Data = slices.Delete(c.Data, i, i+1)
	case 4:
		c.Data = slices.Insert(c.Data, i, byte(d.number()))
	case 5:
		c.N += d.below(5) - 2
	case 6:
		c.From += int64(d.below(3) - 1)
	case 7:
		c.To += int64(d.below(3) - 1)
	case 8:
		// Bits go in or out: what is behind them is read from another place on.
		s := unpack(c.Data)
		at := d.below(len(s))
		if d.below(2) == 0 {
			c.Data = pack(s[:at] + s[at+1:])
		} else {
			c.Data = pack(s[:at] + "1" + s[at:])
		}
	}
	return c
}

// A change is told, or makes the chunk of other samples: no two chunks have the same ones.
func TestDrawnChanges(t *testing.T) {
	d := dice(17)
	told := map[bool]int{}
	for range 12000 {
		l := d.samples(1 + d.below(1+d.below(40)))
		c := d.spoilt(chunkOf(l))
		told[asTheChapter(t, c)]++
		c = framed(c.Data, c.N)
		is := asTheChapter(t, c)
		told[is]++
		if is && slices.Equal(collect(c), l) != same(c, chunkOf(l)) {
			t.Errorf("%+v and %+v have the same samples", c, chunkOf(l))
		}
		if t.Failed() {
			return
		}
	}
	if told[true] < 1500 || told[false] < 1500 {
		t.Errorf("%d are chunks, %d are none", told[true], told[false])
	}
}

// Bits without a pattern, and such as are mostly 0 or 1, behind a first sample.
func TestDrawnData(t *testing.T) {
	d := dice(19)
	told := map[bool]int{}
	for range 30000 {
		s := signed(int64(d.below(2000)-1000)) + bin(d.number(), 64) + varint(d.number()>>(20+d.below(44)))
		kind := d.below(4)
		for range d.below(1 + d.below(100)) {
			b := d.below(2)
			if kind > 1 && d.below(6) > 0 {
				b = kind - 2
			}
			s += string(rune('0' + b))
		}
		for n := 1; n < 6; n++ {
			told[asTheChapter(t, framed(pack(s), n))]++
		}
		if t.Failed() {
			return
		}
	}
	if told[true] < 1500 || told[false] < 1500 {
		t.Errorf("%d are chunks, %d are none", told[true], told[false])
	}
}

// Two lists that differ in one bit of one sample have two chunks.
func TestDrawnNeighbours(t *testing.T) {
	d := dice(23)
	for range 3000 {
		l := d.samples(1 + d.below(30))
		m := slices.Clone(l)
		i := d.below(len(m))
		if d.below(2) == 0 {
			m[i].V ^= 1 << d.below(64)
		} else {
			m[i].T ^= 1 << d.below(53)
		}
		if wrongTimes(m) != api.OK {
			continue
		}
		c, e := appended(t, l).Chunk(), appended(t, m).Chunk()
		if same(c, e) {
			t.Fatalf("%v and %v have the same chunk", l, m)
		}
		isChunk(t, c, l)
		isChunk(t, e, m)
	}
}

// Lists of chunks, as the chapter says: of those that are none, in any order, and good ones.
func TestDrawnDecodes(t *testing.T) {
	d := dice(29)
	told := map[api.Errno]int{}
	for range 2000 {
		all := d.samples(1 + d.below(200))
		var chunks []api.Chunk
		var samples []api.Sample
		for rest := all; len(rest) > 0; {
			n := min(len(rest), 1+d.below(120))
			chunks = append(chunks, chunkOf(rest[:n]))
			rest = rest[n:]
		}
		for d.below(3) == 0 {
			i, j := d.below(len(chunks)), d.below(len(chunks))
			chunks[i], chunks[j] = chunks[j], chunks[i]
		}
		for d.below(4) == 0 {
			i := d.below(len(chunks))
			chunks[i] = d.spoilt(chunks[i])
		}
		want := api.OK
		for i, c := range chunks {
			l, is := samplesOf(c)
			samples = append(samples, l...)
			if i > 0 && want == api.OK && c.From <= chunks[i-1].To {
				want = api.ErrGorillaOrder
			}
			if !is {
				want = api.ErrGorillaForm
			}
		}
		told[want]++
		if want == api.OK {
			decodes(t, chunks, samples)
		} else {
			fails(t, chunks, want)
		}
		if t.Failed() {
			return
		}
	}
	for _, errno := range []api.Errno{api.OK, api.ErrGorillaForm, api.ErrGorillaOrder} {
		if told[errno] < 100 {
			t.Errorf("%v holds of %d drawn lists only", errno, told[errno])
		}
	}
}
