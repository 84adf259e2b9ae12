package gorilla_test

import (
	"bytes"
	"slices"
	"strconv"
	"strings"
	"testing"

	"barograph/api"
	"barograph/gorilla"
)

// This file has what the chapter says of a chunk, word for word and without haste, on texts of 0 and 1; the other tests hold the package against it.

const (
	first = -1 << 53 // the first time that there may be
	final = 1 << 53  // and the last one
)

// dice are numbers without a pattern, the same ones at every run.
type dice uint64

func (d *dice) number() uint64 {
	*d = *d*6364136223846793005 + 1442695040888963407
	return uint64(*d)>>33 ^ uint64(*d)<<31
}

func (d *dice) below(n int) int { return int(d.number() >> 3 % uint64(n)) }

// bin are the n lowest bits of v.
func bin(v uint64, n int) string {
	s := make([]byte, n)
	for i := range s {
		s[i] = '0' + byte(v>>(n-1-i)&1)
	}
	return string(s)
}

// numeral is the number of these bits.
func numeral(s string) uint64 {
	var v uint64
	for _, c := range s {
		v = 2*v + uint64(c-'0')
	}
	return v
}

// varint and signed are those of the chapter of bits.
func varint(v uint64) string {
	s := ""
	for ; v > 127; v /= 128 {
		s += "1" + bin(v%128, 7)
	}
	return s + "0" + bin(v, 7)
}

func signed(v int64) string {
	if v < 0 {
		return varint(uint64(-(v+1))*2 + 1)
	}
	return varint(uint64(v) * 2)
}

// pack are bits as bytes, with zero bits up to the next one.
func pack(s string) []byte {
	s += "0000000"
	var b []byte
	for ; len(s) >= 8; s = s[8:] {
		b = append(b, byte(numeral(s[:8])))
	}
	return b
}

func unpack(b []byte) string {
	var s []byte
	for _, c := range b {
		s = append(s, bin(uint64(c), 8)...)
	}
	return string(s)
}

// timeOf are the bits of a later time.
func timeOf(d int64) string {
	switch {
	case d == 0:
		return "0"
	case -63 <= d && d <= 64:
		return "10" + bin(uint64(d+63), 7)
	case -255 <= d && d <= 256:
		return "110" + bin(uint64(d+255), 9)
	case -2047 <= d && d <= 2048:
		return "1110" + bin(uint64(d+2047), 12)
	}
	return "1111" + bin(uint64(d), 64)
}

// opened is a window.
type opened struct {
	is   bool
	l, e int
}

// edges are the number of leading zero bits, 31 at most, and of the trailing ones.
func edges(x uint64) (l, e int) {
	s := bin(x, 64)
	return min(31, strings.Index(s, "1")), 63 - strings.LastIndex(s, "1")
}

// serves tells whether x goes into the window that there is.
func (w opened) serves(x uint64) bool {
	l, e := edges(x)
	return w.is && l >= w.l && e >= w.e
}

// numberOf are the bits of a number, and the window behind it.
func numberOf(x uint64, w opened) (string, opened) {
	if x == 0 {
		return "0", w
	}
	if w.serves(x) {
		return "10" + bin(x, 64)[w.l:64-w.e], w
	}
	l, e := edges(x)
	return "11" + bin(uint64(l), 5) + bin(uint64(63-l-e), 6) + bin(x, 64)[l:64-e], opened{true, l, e}
}

// written are the bits of any samples, also of such as are no chunk's.
func written(l []api.Sample) string {
	s := ""
	var w opened
	for i, x := range l {
		switch i {
		case 0:
			s += signed(x.T) + bin(uint64(x.V), 64)
			continue
		case 1:
			s += varint(uint64(x.T - l[0].T))
		default:
			s += timeOf((x.T - l[i-1].T) - (l[i-1].T - l[i-2].T))
		}
		number, next := numberOf(uint64(x.V^l[i-1].V), w)
		s += number
		w = next
	}
	return s
}

// chunkOf is the chunk of samples, if they may have one.
func chunkOf(l []api.Sample) api.Chunk {
	if len(l) == 0 {
		return api.Chunk{}
	}
	return api.Chunk{From: l[0].T, To: l[len(l)-1].T, N: len(l), Data: pack(written(l))}
}

// wrongTimes is the error for which there are no chunks of samples.
func wrongTimes(l []api.Sample) api.Errno {
	for _, x := range l {
		if x.T < first || x.T > final {
			return api.ErrRange
		}
	}
	for i := range l {
		if i > 0 && l[i].T <= l[i-1].T {
			return api.ErrGorillaOrder
		}
	}
	return api.OK
}

// encodeOf is what the chapter says of Encode.
func encodeOf(l []api.Sample) ([]api.Chunk, api.Errno) {
	if errno := wrongTimes(l); errno != api.OK {
		return nil, errno
	}
	var chunks []api.Chunk
	for len(l) > 0 {
		n := min(120, len(l))
		chunks = append(chunks, chunkOf(l[:n]))
		l = l[n:]
	}
	return chunks, api.OK
}

// cursor reads bits; it is wrong once they lack, or are such as nothing is written by.
type cursor struct {
	bits  string
	wrong bool
}

func (c *cursor) take(n int) string {
	if n > len(c.bits) {
		c.wrong = true
		return strings.Repeat("0", n)
	}
	s := c.bits[:n]
	c.bits = c.bits[n:]
	return s
}

// starts takes a mark, if it is there.
func (c *cursor) starts(mark string) bool {
	if !strings.HasPrefix(c.bits, mark) {
		return false
	}
	c.take(len(mark))
	return true
}

func (c *cursor) varint() uint64 {
	var v uint64
	for i := range 10 {
		more, group := c.take(1) == "1", numeral(c.take(7))
		v += group << (7 * i)
		if i == 9 && (more || group > 1) || i > 0 && !more && group == 0 {
			c.wrong = true
		}
		if !more || c.wrong {
			break
		}
	}
	return v
}

func (c *cursor) signed() int64 {
	v := c.varint()
	if v%2 == 1 {
		return -int64(v/2) - 1
	}
	return int64(v / 2)
}

// time reads a later time: one that an earlier row of the table has, too, is wrong in this one.
func (c *cursor) time() int64 {
	row := func(size int, plus, least, most int64) int64 {
		d := int64(numeral(c.take(size))) - plus
		c.wrong = c.wrong || least <= d && d <= most
		return d
	}
	switch {
	case c.starts("0"):
		return 0
	case c.starts("10"):
		return row(7, 63, 0, 0)
	case c.starts("110"):
		return row(9, 255, -63, 64)
	case c.starts("1110"):
		return row(12, 2047, -255, 256)
	case c.starts("1111"):
		return row(64, 0, -2047, 2048)
	}
	c.wrong = true
	return 0
}

// number reads X, and the window behind it.
func (c *cursor) number(w opened) (uint64, opened) {
	if c.take(1) == "0" {
		return 0, w
	}
	if c.take(1) == "0" {
		if !w.is {
			c.wrong = true
			return 0, w
		}
		x := numeral(c.take(64-w.l-w.e)) << w.e
		c.wrong = c.wrong || x == 0
		return x, w
	}
	l := int(numeral(c.take(5)))
	e := 63 - l - int(numeral(c.take(6)))
	if e < 0 {
		c.wrong = true
		return 0, w
	}
	x := numeral(c.take(64-l-e)) << e
	if x == 0 {
		c.wrong = true
		return 0, w
	}
	reallyL, reallyE := edges(x)
	c.wrong = c.wrong || l != reallyL || e != reallyE || w.serves(x)
	return x, opened{true, l, e}
}

// readOf are the n samples whose data that is, read bit by bit; false: there are none.
func readOf(data []byte, n int) ([]api.Sample, bool) {
	if n < 1 || n > 120 {
		return nil, false
	}
	in := cursor{bits: unpack(data)}
	l := []api.Sample{{T: in.signed(), V: api.Num(numeral(in.take(64)))}}
	var w opened
	for i := 1; i < n && !in.wrong; i++ {
		s := l[i-1]
		if i == 1 {
			s.T += int64(in.varint())
		} else {
			s.T += l[i-1].T - l[i-2].T + in.time()
		}
		var x uint64
		x, w = in.number(w)
		s.V ^= api.Num(x)
		l = append(l, s)
	}
	atEnd := len(in.bits) < 8 && !strings.Contains(in.bits, "1")
	if in.wrong || !atEnd || wrongTimes(l) != api.OK {
		return nil, false
	}
	return l, true
}

// samplesOf are the samples that c is the chunk of; false: there are none.
func samplesOf(c api.Chunk) ([]api.Sample, bool) {
	l, is := readOf(c.Data, c.N)
	if !is || c.From != l[0].T || c.To != l[c.N-1].T {
		return nil, false
	}
	return l, true
}

// framed is a chunk of these data, with the times that they tell, if they are those of one.
func framed(data []byte, n int) api.Chunk {
	c := api.Chunk{N: n, Data: data}
	if l, is := readOf(data, n); is {
		c.From, c.To = l[0].T, l[n-1].T
	}
	return c
}

// sample has that time and that number.
func sample(t int64, v uint64) api.Sample { return api.Sample{T: t, V: api.Num(v)} }

// at are samples at these times, whose numbers are the same.
func at(times ...int64) []api.Sample {
	var l []api.Sample
	for _, t := range times {
		l = append(l, sample(t, 0x3ff0000000000000))
	}
	return l
}

// of are samples ten apart, of these numbers.
func of(numbers ...uint64) []api.Sample {
	var l []api.Sample
	for i, v := range numbers {
		l = append(l, sample(int64(i*10), v))
	}
	return l
}

// many are so many samples, with times and numbers of each way of writing.
func many(n int) []api.Sample {
	d := dice(n)
	gap, v := int64(1000), uint64(0x4059000000000000)
	var l []api.Sample
	t := int64(-5000)
	for i := range n {
		l = append(l, sample(t, v))
		gap = max(1, gap+[]int64{0, 0, 3, -60, 64, 200, -250, 2000, -1800, 5000, -4000}[i%11])
		t += gap
		switch i % 5 {
		case 1:
			v += 1 << 44
		case 2:
			v ^= d.number() << 30 >> 20
		case 3:
			v = d.number()
		}
	}
	return l
}

// full are samples as many as a chunk may have.
func full() []api.Sample { return many(120) }

// appended is an appender of samples that it takes.
func appended(t *testing.T, l []api.Sample) *gorilla.Appender {
	t.Helper()
	a := gorilla.New()
	for i, s := range l {
		if errno := a.Append(s); errno != api.OK {
			t.Fatalf("Append of sample %d, %v: %v", i, s, errno)
		}
	}
	return a
}

func same(c, d api.Chunk) bool {
	return c.From == d.From && c.To == d.To && c.N == d.N && bytes.Equal(c.Data, d.Data)
}

// holds asks an appender for a chunk.
func holds(t *testing.T, a *gorilla.Appender, want []api.Sample) {
	t.Helper()
	if c := a.Chunk(); !same(c, chunkOf(want)) {
		t.Errorf("Chunk() = %+v, want %+v", c, chunkOf(want))
	}
}

// collect are the samples that All yields.
func collect(c api.Chunk) []api.Sample {
	var l []api.Sample
	for s := range gorilla.All(c) {
		l = append(l, s)
	}
	return l
}

// isChunk asks every call that reads a chunk for the samples that it is of.
func isChunk(t *testing.T, c api.Chunk, want []api.Sample) {
	t.Helper()
	if errno := gorilla.Check(c); errno != api.OK {
		t.Errorf("Check(%+v) = %v", c, errno)
	}
	if l := collect(c); !slices.Equal(l, want) {
		t.Errorf("All(%+v) yields %v, want %v", c, l, want)
	}
	if l, errno := gorilla.Decode([]api.Chunk{c}); errno != api.OK || !slices.Equal(l, want) {
		t.Errorf("Decode(%+v) = %v, %v, want %v", c, l, errno, want)
	}
}

// isNone asks every call that reads a chunk to refuse it.
func isNone(t *testing.T, c api.Chunk) {
	t.Helper()
	if errno := gorilla.Check(c); errno != api.ErrGorillaForm {
		t.Errorf("Check(%+v) = %v", c, errno)
	}
	if l := collect(c); len(l) != 0 {
		t.Errorf("All(%+v) yields %v", c, l)
	}
	if l, errno := gorilla.Decode([]api.Chunk{c}); errno != api.ErrGorillaForm || len(l) != 0 {
		t.Errorf("Decode(%+v) = %v, %v", c, l, errno)
	}
}

// asTheChapter holds every call that reads a chunk against what the chapter says, and tells whether c is one.
func asTheChapter(t *testing.T, c api.Chunk) bool {
	t.Helper()
	l, is := samplesOf(c)
	if is {
		isChunk(t, c, l)
	} else {
		isNone(t, c)
	}
	return is
}

// encodes asks Encode for the chunks, and Decode for the samples again.
func encodes(t *testing.T, l []api.Sample) {
	t.Helper()
	want, wantErrno := encodeOf(l)
	chunks, errno := gorilla.Encode(l)
	if errno != wantErrno || !slices.EqualFunc(chunks, want, same) {
		t.Errorf("Encode(%v) = %+v, %v, want %+v, %v", l, chunks, errno, want, wantErrno)
	}
	if wantErrno != api.OK {
		return
	}
	if back, errno := gorilla.Decode(chunks); errno != api.OK || !slices.Equal(back, l) {
		t.Errorf("Decode of Encode(%v) = %v, %v", l, back, errno)
	}
}

// refuses asks Encode for an error, and nothing beside it.
func refuses(t *testing.T, l []api.Sample, want api.Errno) {
	t.Helper()
	if chunks, errno := gorilla.Encode(l); errno != want || len(chunks) != 0 {
		t.Errorf("Encode(%v) = %+v, %v, want nothing and %v", l, chunks, errno, want)
	}
}

// fails asks Decode for an error, and nothing beside it.
func fails(t *testing.T, l []api.Chunk, want api.Errno) {
	t.Helper()
	if samples, errno := gorilla.Decode(l); errno != want || len(samples) != 0 {
		t.Errorf("Decode(%+v) = %v, %v, want nothing and %v", l, samples, errno, want)
	}
}

// bytesOf are the bytes of a text of hexadecimal digits.
func bytesOf(s string) []byte {
	s = strings.ReplaceAll(s, " ", "")
	var b []byte
	for i := 0; i < len(s); i += 2 {
		v, _ := strconv.ParseUint(s[i:i+2], 16, 8)
		b = append(b, byte(v))
	}
	return b
}
