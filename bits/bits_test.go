package bits_test

import (
	"bytes"
	"math"
	"slices"
	"testing"

	"barograph/api"
	"barograph/bits"
)

// The calls have these signatures.
var (
	_ func() *bits.Writer                         = bits.New
	_ func(*bits.Writer, bool)                    = (*bits.Writer).Bit
	_ func(*bits.Writer, uint64, int) api.Errno   = (*bits.Writer).Bits
	_ func(*bits.Writer, uint64)                  = (*bits.Writer).Varint
	_ func(*bits.Writer, int64)                   = (*bits.Writer).Signed
	_ func(*bits.Writer) int                      = (*bits.Writer).Len
	_ func(*bits.Writer) []byte                   = (*bits.Writer).Bytes
	_ func([]byte) *bits.Reader                   = bits.Read
	_ func(*bits.Reader) (bool, api.Errno)        = (*bits.Reader).Bit
	_ func(*bits.Reader, int) (uint64, api.Errno) = (*bits.Reader).Bits
	_ func(*bits.Reader) (uint64, api.Errno)      = (*bits.Reader).Varint
	_ func(*bits.Reader) (int64, api.Errno)       = (*bits.Reader).Signed
	_ func(*bits.Reader) int                      = (*bits.Reader).Left
)

// wrongCounts are no numbers of bits; some of them are right ones once they are cut to fewer bits.
var wrongCounts = []int{-1, -8, -64, math.MinInt, math.MinInt32, -256, 65, 72, 128, 256, 257, 1 << 16, 1<<32 + 1, math.MaxInt32, math.MaxInt}

// numbers are edges of each number of bits, and some without a pattern.
func numbers() []uint64 {
	all := []uint64{0, math.MaxUint64, math.MaxUint64 - 1}
	for i := range 64 {
		all = append(all, 1<<i, 1<<i-1, 1<<i+1, ^uint64(1<<i))
	}
	d := dice(1)
	for range 64 {
		all = append(all, d.number(), d.number()>>d.below(64))
	}
	return all
}

// dice are numbers without a pattern, the same ones at every run.
type dice uint64

func (d *dice) number() uint64 {
	*d = *d*6364136223846793005 + 1442695040888963407
	return uint64(*d)>>33 ^ uint64(*d)<<31
}

func (d *dice) below(n int) int { return int(d.number() >> 3 % uint64(n)) }

func (d *dice) bytes(n int) []byte {
	b := make([]byte, n)
	for i := range b {
		b[i] = byte(d.number() >> 20)
	}
	return b
}

// lowest are the n lowest bits of v, the highest of them first, as 0 and 1.
func lowest(v uint64, n int) string {
	s := ""
	for i := n - 1; i >= 0; i-- {
		s += string(rune('0' + v>>i&1))
	}
	return s
}

// groups is the chapter's description of a varint, word for word, as 0 and 1.
func groups(v uint64) string {
	s := ""
	for {
		group := v & 0x7f
		v >>= 7
		if v == 0 {
			return s + "0" + lowest(group, 7)
		}
		s += "1" + lowest(group, 7)
	}
}

// pack has eight bits a byte, the first one highest, and zero bits up to the next byte.
func pack(s string) []byte {
	var b []byte
	for i := range len(s) {
		if i%8 == 0 {
			b = append(b, 0)
		}
		if s[i] == '1' {
			b[i/8] += 128 >> (i % 8)
		}
	}
	return b
}

func unpack(b []byte) string {
	s := ""
	for _, c := range b {
		s += lowest(uint64(c), 8)
	}
	return s
}

// parseBits is the number of these bits, the first one being the highest.
func parseBits(s string) uint64 {
	var v uint64
	for i := range len(s) {
		v = v*2 + uint64(s[i]-'0')
	}
	return v
}

// parseVarint is the chapter's description of how one is read, word for word; it answers how many bits that takes too.
func parseVarint(s string) (uint64, int, api.Errno) {
	var v uint64
	for i := 1; ; i++ {
		if len(s) < i*8 {
			return 0, 0, api.ErrBitsShort
		}
		follows, group := s[i*8-8] == '1', parseBits(s[i*8-7:i*8])
		if i == 10 && (follows || group > 1) {
			return 0, 0, api.ErrBitsForm
		}
		v += group << (7 * (i - 1))
		if follows {
			continue
		}
		if i > 1 && group == 0 {
			return 0, 0, api.ErrBitsForm
		}
		return v, i * 8, api.OK
	}
}

func unsign(v uint64) int64 {
	if v%2 == 0 {
		return int64(v / 2)
	}
	return -int64(v/2) - 1
}

// holds tells whether a writer has exactly these bits.
func holds(t *testing.T, w *bits.Writer, want string) {
	t.Helper()
	if w.Len() != len(want) || !bytes.Equal(w.Bytes(), pack(want)) {
		t.Errorf("%d bits, %x; want %d, %x", w.Len(), w.Bytes(), len(want), pack(want))
	}
}

// behind is a writer that has some bits already, and these.
func behind(n int) (*bits.Writer, string) {
	w, s := bits.New(), ""
	for i := range n {
		b := i%3 != 1
		w.Bit(b)
		if b {
			s += "1"
		} else {
			s += "0"
		}
	}
	return w, s
}

func TestExampleOfTheWriter(t *testing.T) {
	w := bits.New()
	w.Bit(true)
	if e := w.Bits(5, 3); e != api.OK {
		t.Error(e)
	}
	if e := w.Bits(1, 65); e != api.ErrArg {
		t.Error(e)
	}
	if w.Len() != 4 || !bytes.Equal(w.Bytes(), []byte{0xd0}) {
		t.Errorf("%d bits, %x", w.Len(), w.Bytes())
	}
	w = bits.New()
	w.Varint(300)
	if !bytes.Equal(w.Bytes(), []byte{0xac, 0x02}) {
		t.Errorf("Varint(300): %x", w.Bytes())
	}
	for _, x := range []struct {
		v    int64
		want []byte
	}{{-1, []byte{1}}, {1, []byte{2}}, {-1 << 63, []byte{255, 255, 255, 255, 255, 255, 255, 255, 255, 1}}} {
		w := bits.New()
		w.Signed(x.v)
		if !bytes.Equal(w.Bytes(), x.want) {
			t.Errorf("Signed(%d): %x, want %x", x.v, w.Bytes(), x.want)
		}
	}
}

func TestExampleOfTheReader(t *testing.T) {
	r := bits.Read([]byte{0xac, 0x02})
	if v, e := r.Varint(); v != 300 || e != api.OK || r.Left() != 0 {
		t.Error(v, e, r.Left())
	}
	if b, e := r.Bit(); b || e != api.ErrBitsShort {
		t.Error(b, e)
	}
	r = bits.Read([]byte{0x80, 0x00})
	if v, e := r.Varint(); v != 0 || e != api.ErrBitsForm || r.Left() != 16 {
		t.Error(v, e, r.Left())
	}
	if v, e := bits.Read([]byte{0x80}).Varint(); v != 0 || e != api.ErrBitsShort {
		t.Error(v, e)
	}
	r = bits.Read([]byte{0xd0})
	if b, e := r.Bit(); !b || e != api.OK {
		t.Error(b, e)
	}
	if v, e := r.Bits(3); v != 5 || e != api.OK || r.Left() != 4 {
		t.Error(v, e, r.Left())
	}
}

func TestErrorsHaveTheirNumbers(t *testing.T) {
	if api.ErrArg != 1 || api.ErrBitsShort != 20 || api.ErrBitsForm != 21 {
		t.Error(api.ErrArg, api.ErrBitsShort, api.ErrBitsForm)
	}
}

func TestNewHasNoBits(t *testing.T) {
	holds(t, bits.New(), "")
}

func TestWriterBit(t *testing.T) {
	w, s := bits.New(), ""
	d := dice(2)
	for range 200 {
		b := d.below(2) == 1
		w.Bit(b)
		if b {
			s += "1"
		} else {
			s += "0"
		}
		holds(t, w, s)
	}
}

func TestWriterBitsOfEachCount(t *testing.T) {
	for n := range 65 {
		for _, v := range numbers() {
			w := bits.New()
			if e := w.Bits(v, n); e != api.OK {
				t.Errorf("Bits(%x, %d): %v", v, n, e)
			}
			holds(t, w, lowest(v, n))
		}
	}
}

func TestWriterBitsBehindAnyNumber(t *testing.T) {
	for before := range 17 {
		for n := range 65 {
			for _, v := range []uint64{0, math.MaxUint64, 0x8123456789abcdef, 1 << 63, 1, 0xaaaaaaaaaaaaaaaa} {
				w, s := behind(before)
				if e := w.Bits(v, n); e != api.OK {
					t.Errorf("Bits(%x, %d): %v", v, n, e)
				}
				w.Bit(true)
				holds(t, w, s+lowest(v, n)+"1")
			}
		}
	}
}

// A wrong number of bits appends none, and the writer goes on from there.
func TestWriterBitsOfWrongCount(t *testing.T) {
	for before := range 10 {
		for _, n := range wrongCounts {
			w, s := behind(before)
			for _, v := range []uint64{0, 1, math.MaxUint64} {
				if e := w.Bits(v, n); e != api.ErrArg {
					t.Errorf("Bits(%x, %d): %v", v, n, e)
				}
				holds(t, w, s)
			}
			w.Bits(2, 2)
			holds(t, w, s+"10")
		}
	}
}

// Each number of groups has its least and its greatest number.
func TestWriterVarintAtEdges(t *testing.T) {
	for _, x := range []struct {
		v    uint64
		want string
	}{
		{0, "\x00"},
		{1, "\x01"},
		{127, "\x7f"},
		{128, "\x80\x01"},
		{1<<14 - 1, "\xff\x7f"},
		{1 << 14, "\x80\x80\x01"},
		{1<<21 - 1, "\xff\xff\x7f"},
		{1 << 21, "\x80\x80\x80\x01"},
		{1<<28 - 1, "\xff\xff\xff\x7f"},
		{1 << 28, "\x80\x80\x80\x80\x01"},
		{1<<35 - 1, "\xff\xff\xff\xff\x7f"},
		{1 << 35, "\x80\x80\x80\x80\x80\x01"},
		{1<<42 - 1, "\xff\xff\xff\xff\xff\x7f"},
		{1 << 42, "\x80\x80\x80\x80\x80\x80\x01"},
		{1<<49 - 1, "\xff\xff\xff\xff\xff\xff\x7f"},
		{1 << 49, "\x80\x80\x80\x80\x80\x80\x80\x01"},
		{1<<56 - 1, "\xff\xff\xff\xff\xff\xff\xff\x7f"},
		{1 << 56, "\x80\x80\x80\x80\x80\x80\x80\x80\x01"},
		{1<<63 - 1, "\xff\xff\xff\xff\xff\xff\xff\xff\x7f"},
		{1 << 63, "\x80\x80\x80\x80\x80\x80\x80\x80\x80\x01"},
		{math.MaxUint64, "\xff\xff\xff\xff\xff\xff\xff\xff\xff\x01"},
	} {
		w := bits.New()
		w.Varint(x.v)
		if w.Len() != 8*len(x.want) || string(w.Bytes()) != x.want {
			t.Errorf("Varint(%d): %x, want %x", x.v, w.Bytes(), x.want)
		}
		r := bits.Read([]byte(x.want))
		if v, e := r.Varint(); v != x.v || e != api.OK || r.Left() != 0 {
			t.Errorf("%x: %d, %v, %d bits left", x.want, v, e, r.Left())
		}
	}
}

func TestWriterVarintIsTheDescription(t *testing.T) {
	for before := range 9 {
		for _, v := range numbers() {
			w, s := behind(before)
			w.Varint(v)
			holds(t, w, s+groups(v))
		}
	}
}

func TestWriterSigned(t *testing.T) {
	for _, x := range []struct {
		v    int64
		want uint64
	}{
		{0, 0}, {-1, 1}, {1, 2}, {-2, 3}, {2, 4}, {63, 126}, {-64, 127}, {64, 128}, {-65, 129},
		{1<<31 - 1, 1<<32 - 2}, {-1 << 31, 1<<32 - 1}, {1 << 62, 1 << 63}, {-1 << 62, 1<<63 - 1}, {-1<<62 - 1, 1<<63 + 1},
		{math.MaxInt64, math.MaxUint64 - 1}, {math.MinInt64 + 1, math.MaxUint64 - 2}, {math.MinInt64, math.MaxUint64},
	} {
		for before := range 9 {
			w, s := behind(before)
			w.Signed(x.v)
			holds(t, w, s+groups(x.want))
		}
		if v, e := bits.Read(pack(groups(x.want))).Signed(); v != x.v || e != api.OK {
			t.Errorf("%d: %d, %v", x.want, v, e)
		}
	}
}

// Bytes may be asked for behind each bit; more bits then go where they would have gone without.
func TestBytesBetweenBits(t *testing.T) {
	asked, s := bits.New(), ""
	d := dice(3)
	for range 300 {
		n := d.below(12)
		v := d.number()
		asked.Bits(v, n)
		s += lowest(v, n)
		for range 2 {
			holds(t, asked, s)
		}
	}
}

// What a caller does with the bytes it got, the capacity behind them included, is seen by nobody else.
func TestBytesBelongToTheCaller(t *testing.T) {
	for n := range 80 {
		w, s := behind(n)
		first, second := w.Bytes(), w.Bytes()
		for _, b := range [][]byte{first, first[:cap(first)]} {
			for i := range b {
				b[i] ^= 0xff
			}
		}
		if !bytes.Equal(second, pack(s)) {
			t.Errorf("%d bits: the second bytes became %x", n, second)
		}
		holds(t, w, s)
		w.Bits(0xc5, 8)
		holds(t, w, s+"11000101")
		third := w.Bytes()
		w.Bits(math.MaxUint64, 64)
		if !bytes.Equal(third, pack(s+"11000101")) || !bytes.Equal(second, pack(s)) {
			t.Errorf("%d bits: later bits changed bytes that were handed out", n)
		}
	}
}

func TestWritersAreIndependent(t *testing.T) {
	a, b := bits.New(), bits.New()
	a.Bits(0xabc, 12)
	b.Bits(0x5, 4)
	a.Varint(1)
	holds(t, a, "101010111100"+"00000001")
	holds(t, b, "0101")
}

func TestReaderBit(t *testing.T) {
	b := []byte{0xa5, 0x0f, 0x80}
	r, s := bits.Read(b), unpack(b)
	for i := range s {
		if r.Left() != len(s)-i {
			t.Errorf("%d bits left behind %d", r.Left(), i)
		}
		if v, e := r.Bit(); v != (s[i] == '1') || e != api.OK {
			t.Errorf("bit %d: %v, %v", i, v, e)
		}
	}
	for range 3 {
		if v, e := r.Bit(); v || e != api.ErrBitsShort || r.Left() != 0 {
			t.Errorf("behind the last bit: %v, %v, %d left", v, e, r.Left())
		}
	}
}

func TestReaderBitsAtAnyPlace(t *testing.T) {
	d := dice(4)
	for _, b := range [][]byte{d.bytes(11), bytes.Repeat([]byte{0xff}, 11), make([]byte, 11)} {
		s := unpack(b)
		for at := range len(s) + 1 {
			for n := range 65 {
				r := readerAt(t, b, at)
				v, e := r.Bits(n)
				if at+n > len(s) {
					if v != 0 || e != api.ErrBitsShort || r.Left() != len(s)-at {
						t.Errorf("%d bits of %d from %d on: %x, %v, %d left", n, len(s), at, v, e, r.Left())
					}
					continue
				}
				if v != parseBits(s[at:at+n]) || e != api.OK || r.Left() != len(s)-at-n {
					t.Errorf("%d bits of %x from %d on: %x, %v, %d left", n, b, at, v, e, r.Left())
				}
			}
		}
	}
}

// readerAt is a reader of b from that bit on.
func readerAt(t *testing.T, b []byte, at int) *bits.Reader {
	t.Helper()
	r := bits.Read(b)
	for at > 0 {
		n := min(at, 64)
		if _, e := r.Bits(n); e != api.OK {
			t.Fatal(e)
		}
		at -= n
	}
	return r
}

// A wrong number of bits is told ahead of the bits that lack.
func TestReaderBitsOfWrongCount(t *testing.T) {
	for _, b := range [][]byte{nil, {}, {0xff}, bytes.Repeat([]byte{0xff}, 40)} {
		for at := range len(b)*8 + 1 {
			r := readerAt(t, b, at)
			for _, n := range wrongCounts {
				if v, e := r.Bits(n); v != 0 || e != api.ErrArg || r.Left() != len(b)*8-at {
					t.Errorf("Bits(%d) at %d of %d bytes: %x, %v, %d left", n, at, len(b), v, e, r.Left())
				}
			}
			rest := min(r.Left(), 64)
			if v, e := r.Bits(rest); v != parseBits(unpack(b)[at:at+rest]) || e != api.OK {
				t.Errorf("then Bits(%d): %x, %v", rest, v, e)
			}
		}
	}
}

func TestReaderOfNothing(t *testing.T) {
	for _, b := range [][]byte{nil, {}, []byte("abc")[:0], []byte("abc")[3:]} {
		r := bits.Read(b)
		if v, e := r.Bit(); v || e != api.ErrBitsShort {
			t.Error(v, e)
		}
		if v, e := r.Bits(0); v != 0 || e != api.OK {
			t.Error(v, e)
		}
		if v, e := r.Bits(1); v != 0 || e != api.ErrBitsShort {
			t.Error(v, e)
		}
		if v, e := r.Bits(64); v != 0 || e != api.ErrBitsShort {
			t.Error(v, e)
		}
		if v, e := r.Varint(); v != 0 || e != api.ErrBitsShort {
			t.Error(v, e)
		}
		if v, e := r.Signed(); v != 0 || e != api.ErrBitsShort {
			t.Error(v, e)
		}
		if r.Left() != 0 {
			t.Error(r.Left())
		}
	}
}

// places are bits ahead of a varint: it may begin at any of them.
const places = 9

// varintIs reads what may be a varint at each place, by Varint and by Signed; behind an error the reader stays where it was, and reads the same bits by Bits.
func varintIs(t *testing.T, b []byte, want uint64, size int, wantErr api.Errno) {
	t.Helper()
	for ahead := range places {
		w, _ := behind(ahead)
		for _, c := range b {
			w.Bits(uint64(c), 8)
		}
		// What fills the last byte up is too short for a group.
		left := len(w.Bytes())*8 - ahead
		r := readerAt(t, w.Bytes(), ahead)
		if v, e := r.Varint(); v != want || e != wantErr || r.Left() != left-size {
			t.Errorf("Varint of %x behind %d bits: %d, %v, %d bits left; want %d, %v, %d", b, ahead, v, e, r.Left(), want, wantErr, left-size)
		}
		if wantErr != api.OK {
			goesOn(t, r, b)
		}
		r = readerAt(t, w.Bytes(), ahead)
		if v, e := r.Signed(); v != unsign(want) || e != wantErr || r.Left() != left-size {
			t.Errorf("Signed of %x behind %d bits: %d, %v, %d bits left; want %d, %v, %d", b, ahead, v, e, r.Left(), unsign(want), wantErr, left-size)
		}
		if wantErr != api.OK {
			goesOn(t, r, b)
		}
	}
}

func goesOn(t *testing.T, r *bits.Reader, b []byte) {
	t.Helper()
	for i, c := range b {
		if v, e := r.Bits(8); v != uint64(c) || e != api.OK {
			t.Errorf("byte %d of %x, behind the error: %x, %v", i, b, v, e)
		}
	}
}

func TestReaderVarintCutShort(t *testing.T) {
	for n := range 10 {
		for _, c := range []byte{0x80, 0x81, 0xff} {
			varintIs(t, bytes.Repeat([]byte{c}, n), 0, 0, api.ErrBitsShort)
		}
	}
}

// Fewer than eight bits are no group, whatever they are.
func TestReaderVarintOfFewBits(t *testing.T) {
	for _, c := range []byte{0x00, 0x01, 0x7f, 0xff} {
		for n := range 3 {
			b := append(bytes.Repeat([]byte{0x80}, n), c)
			for at := 1; at < 8; at++ {
				w, _ := behind(at)
				for _, x := range b[:n] {
					w.Bits(uint64(x), 8)
				}
				w.Bits(uint64(c), 8-at)
				r := readerAt(t, w.Bytes(), at)
				if v, e := r.Varint(); v != 0 || e != api.ErrBitsShort || r.Left() != 8*n+8-at {
					t.Errorf("%x from bit %d on: %d, %v, %d left", w.Bytes(), at, v, e, r.Left())
				}
				if v, e := r.Signed(); v != 0 || e != api.ErrBitsShort || r.Left() != 8*n+8-at {
					t.Errorf("%x from bit %d on: %d, %v, %d left", w.Bytes(), at, v, e, r.Left())
				}
			}
		}
	}
}

func TestReaderVarintTooLong(t *testing.T) {
	for _, c := range []byte{0x80, 0x81, 0xff} {
		nine := bytes.Repeat([]byte{c}, 9)
		for tenth := range 256 {
			b := append(bytes.Clone(nine), byte(tenth))
			if tenth == 1 {
				v, size, e := parseVarint(unpack(b))
				if v < 1<<63 || size != 80 || e != api.OK {
					t.Fatal(v, size, e)
				}
				varintIs(t, b, v, 80, api.OK)
				continue
			}
			varintIs(t, b, 0, 0, api.ErrBitsForm)
			// Whatever follows: neither more groups nor their end is looked at.
			varintIs(t, append(bytes.Clone(b), 0x01), 0, 0, api.ErrBitsForm)
		}
		for n := 10; n < 14; n++ {
			varintIs(t, bytes.Repeat([]byte{c}, n), 0, 0, api.ErrBitsForm)
		}
	}
}

func TestReaderVarintThatEndsInZero(t *testing.T) {
	varintIs(t, []byte{0}, 0, 8, api.OK)
	for n := 1; n < 10; n++ {
		for _, c := range []byte{0x80, 0x81, 0xff} {
			varintIs(t, append(bytes.Repeat([]byte{c}, n), 0), 0, 0, api.ErrBitsForm)
		}
	}
	// A group of 0 that is not the last one is as good as another.
	varintIs(t, []byte{0x80, 0x80, 0x01}, 1<<14, 24, api.OK)
	varintIs(t, []byte{0x81, 0x80, 0x80, 0x02}, 2<<21+1, 32, api.OK)
}

// What stands behind the last group is not read.
func TestReaderVarintEndsWhereItEnds(t *testing.T) {
	varintIs(t, []byte{0x00, 0x00}, 0, 8, api.OK)
	varintIs(t, []byte{0x7f, 0xff}, 127, 8, api.OK)
	varintIs(t, []byte{0xac, 0x02, 0x80}, 300, 16, api.OK)
	varintIs(t, []byte{0xff, 0x01, 0x80, 0x00}, 255, 16, api.OK)
}

// Every number has exactly one encoding: what is read at all is what Varint writes.
func TestOneEncoding(t *testing.T) {
	check := func(b []byte) {
		r := bits.Read(b)
		v, e := r.Varint()
		want, size, wantErr := parseVarint(unpack(b))
		if v != want || e != wantErr || r.Left() != len(b)*8-size {
			t.Fatalf("%x: %d, %v, %d bits left; want %d, %v, %d taken", b, v, e, r.Left(), want, wantErr, size)
		}
		if e != api.OK {
			return
		}
		w := bits.New()
		w.Varint(v)
		if !bytes.Equal(w.Bytes(), b[:size/8]) {
			t.Fatalf("%x is %d, which is written as %x", b[:size/8], v, w.Bytes())
		}
	}
	for x := range 1 << 16 {
		check([]byte{byte(x)})
		check([]byte{byte(x), byte(x >> 8)})
	}
	d := dice(5)
	for range 20000 {
		b := d.bytes(13)
		for i := range d.below(12) {
			b[i] |= 0x80
		}
		if n := d.below(13); d.below(2) == 0 {
			b[n] = byte(d.below(4))
		}
		check(b[:d.below(14)])
	}
}

func TestGroupsGrowWithTheNumber(t *testing.T) {
	all := numbers()
	slices.Sort(all)
	last := 0
	for _, v := range all {
		w := bits.New()
		w.Varint(v)
		if w.Len() < last || w.Len() > 80 || w.Len()%8 != 0 {
			t.Errorf("%d has %d bits, a smaller number %d", v, w.Len(), last)
		}
		last = w.Len()
		signed := bits.New()
		signed.Signed(int64(v))
		if signed.Len() > 80 {
			t.Errorf("Signed(%d) has %d bits", int64(v), signed.Len())
		}
	}
	if last != 80 {
		t.Errorf("the greatest number has %d bits", last)
	}
}

// The bytes that were handed in stay as they were, and so does what the reader has of them when they change.
func TestReaderHasItsOwnBytes(t *testing.T) {
	d := dice(6)
	around := d.bytes(60)
	piece := around[10:40]
	for _, spoil := range []byte{0, 0xff} {
		around[9], around[40] = spoil, spoil
		before := bytes.Clone(around)
		r := bits.Read(piece)
		if r.Left() != len(piece)*8 {
			t.Errorf("%d bits", r.Left())
		}
		for i := range piece {
			r.Varint()
			r.Signed()
			r.Bits(65)
			if _, e := readerAt(t, piece, i).Bits(3); e != api.OK {
				t.Error(e)
			}
		}
		if !bytes.Equal(around, before) {
			t.Errorf("%x became %x", before, around)
		}
	}
	want := bytes.Clone(piece)
	r := bits.Read(piece)
	for i := range around {
		around[i] ^= 0xff
	}
	goesOn(t, r, want)
	if r.Left() != 0 {
		t.Errorf("%d bits left", r.Left())
	}
}

func TestReadersAreIndependent(t *testing.T) {
	b := []byte{0xac, 0x02, 0x7f}
	one, two := bits.Read(b), bits.Read(b)
	if v, e := one.Varint(); v != 300 || e != api.OK || two.Left() != 24 {
		t.Error(v, e, two.Left())
	}
	if v, e := two.Bits(8); v != 0xac || e != api.OK || one.Left() != 8 {
		t.Error(v, e, one.Left())
	}
}

// call is one of the writer's, and the reader's that belongs to it.
type call struct {
	kind byte
	v    uint64
	n    int
}

func (c call) write(w *bits.Writer) {
	switch c.kind {
	case 'b':
		w.Bit(c.v == 1)
	case 'n':
		w.Bits(c.v, c.n)
	case 'v':
		w.Varint(c.v)
	case 's':
		w.Signed(int64(c.v))
	}
}

func (c call) read(r *bits.Reader) (uint64, api.Errno) {
	switch c.kind {
	case 'b':
		b, e := r.Bit()
		if b {
			return 1, e
		}
		return 0, e
	case 'n':
		return r.Bits(c.n)
	case 'v':
		return r.Varint()
	}
	v, e := r.Signed()
	return uint64(v), e
}

func (c call) bits() string {
	switch c.kind {
	case 'b':
		return lowest(c.v, 1)
	case 'n':
		return lowest(c.v, c.n)
	case 'v':
		return groups(c.v)
	}
	if int64(c.v) < 0 {
		return groups(2*-c.v - 1)
	}
	return groups(2 * c.v)
}

// someCalls have numbers that fit their bits.
func someCalls(d *dice, n int) []call {
	var calls []call
	for range n {
		c := call{kind: "bnvs"[d.below(4)], v: d.number() << 31}
		c.v = (c.v ^ d.number()) >> d.below(64)
		switch c.kind {
		case 'b':
			c.v %= 2
		case 'n':
			c.n = d.below(65)
			c.v = parseBits(lowest(c.v, c.n))
		case 's':
			if d.below(2) == 0 {
				c.v = -c.v
			}
		}
		calls = append(calls, c)
	}
	return calls
}

// written is what these calls make; wrong calls between them leave no trace.
func written(calls []call) *bits.Writer {
	w := bits.New()
	for i, c := range calls {
		c.write(w)
		w.Bits(math.MaxUint64, wrongCounts[i%len(wrongCounts)])
	}
	return w
}

// T9: the same calls read what was written.
func TestReadAgain(t *testing.T) {
	d := dice(7)
	for n := range 60 {
		for range 8 {
			calls := someCalls(&d, n)
			w, s := written(calls), ""
			for _, c := range calls {
				s += c.bits()
			}
			holds(t, w, s)
			r := bits.Read(w.Bytes())
			for i, c := range calls {
				if v, e := c.read(r); v != c.v || e != api.OK {
					t.Fatalf("call %d of %v: %x, %v", i, calls, v, e)
				}
			}
			if r.Left() != (8-len(s)%8)%8 {
				t.Errorf("%d bits left of %d", r.Left(), len(s))
			}
			if v, e := r.Bits(r.Left()); v != 0 || e != api.OK {
				t.Errorf("behind the last bit: %x, %v", v, e)
			}
		}
	}
}

// T9: when a byte has changed, the same calls and the bits that they leave tell something else than was written.
func TestChangedByteIsSeen(t *testing.T) {
	d := dice(8)
	for range 60 {
		calls := someCalls(&d, 12)
		b := written(calls).Bytes()
		for at := range b {
			for change := 1; change < 256; change++ {
				c := bytes.Clone(b)
				c[at] ^= byte(change)
				if sameAnswers(calls, c) {
					t.Fatalf("%v: byte %d of %x changed by %02x is not seen", calls, at, b, change)
				}
			}
		}
	}
}

// sameAnswers tells whether these calls, on these bytes, answer what they wrote, and leave fewer than eight zero bits.
func sameAnswers(calls []call, b []byte) bool {
	r := bits.Read(b)
	for _, c := range calls {
		if v, e := c.read(r); v != c.v || e != api.OK {
			return false
		}
	}
	rest, e := r.Bits(r.Left())
	return rest == 0 && e == api.OK
}

// Any calls on any bytes answer what the chapter says, step by step, and behind an error they go on from where they were.
func TestAnyCallsOnAnyBytes(t *testing.T) {
	d := dice(9)
	for range 3000 {
		b := d.bytes(d.below(40))
		for i := range b {
			if d.below(3) == 0 {
				b[i] = []byte{0x80, 0xff, 0x00, 0x01}[d.below(4)]
			}
		}
		r, s := bits.Read(b), unpack(b)
		for range 40 {
			c := call{kind: "bnvs"[d.below(4)], n: d.below(70) - 2}
			want, size, wantErr := expected(c, s)
			v, e := c.read(r)
			s = s[size:]
			if v != want || e != wantErr || r.Left() != len(s) {
				t.Fatalf("%c %d of %x: %x, %v, %d left; want %x, %v, %d", c.kind, c.n, b, v, e, r.Left(), want, wantErr, len(s))
			}
		}
	}
}

// expected is what a reader's call answers, and how many bits it takes, where these are left.
func expected(c call, s string) (uint64, int, api.Errno) {
	switch c.kind {
	case 'b':
		c.n = 1
		fallthrough
	case 'n':
		if c.n < 0 || c.n > 64 {
			return 0, 0, api.ErrArg
		}
		if c.n > len(s) {
			return 0, 0, api.ErrBitsShort
		}
		return parseBits(s[:c.n]), c.n, api.OK
	}
	v, size, e := parseVarint(s)
	if c.kind == 's' {
		v = uint64(unsign(v))
	}
	return v, size, e
}

func TestManyBits(t *testing.T) {
	w := bits.New()
	for i := range 100000 {
		w.Bits(uint64(i), 17)
	}
	if w.Len() != 1700000 || len(w.Bytes()) != 212500 {
		t.Errorf("%d bits, %d bytes", w.Len(), len(w.Bytes()))
	}
	r := bits.Read(w.Bytes())
	for i := range 100000 {
		if v, e := r.Bits(17); v != uint64(i)&(1<<17-1) || e != api.OK {
			t.Fatalf("%d: %d, %v", i, v, e)
		}
	}
	if r.Left() != 0 {
		t.Errorf("%d bits left", r.Left())
	}
}
