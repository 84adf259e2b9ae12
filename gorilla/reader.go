package gorilla

import (
	"iter"

	"barograph/api"
	"barograph/bits"
)

// read are the samples that the data of c says, N of them, and fewer where what follows says none. Whether it says them the way an appender does is not looked at.
func read(c api.Chunk) iter.Seq[api.Sample] {
	return func(yield func(api.Sample) bool) {
		r := reader{in: bits.Read(c.Data)}
		for range c.N {
			s := r.next()
			if r.wrong || !yield(s) {
				return
			}
		}
	}
}

// reader reads what an appender writes.
type reader struct {
	past
	in    *bits.Reader
	wrong bool // since the bits lacked, or could not be: what is read is of no use any more
}

func (r *reader) next() api.Sample {
	t := r.time()
	s := api.Sample{T: t, V: r.number()}
	r.push(s)
	return s
}

func (r *reader) time() int64 {
	switch r.n {
	case 0:
		t, errno := r.in.Signed()
		r.note(errno)
		return t
	case 1:
		gap, errno := r.in.Varint()
		r.note(errno)
		return r.last.T + int64(gap)
	}
	return r.last.T + int64(r.gap+r.step())
}

// step reads as much of a mark as the row at hand has, till it is that row's.
func (r *reader) step() uint64 {
	var mark uint64
	have := 0
	b := firstBucket(func(b bucket) bool {
		lack := b.markSize - have
		mark = mark<<lack | r.bits(lack)
		have = b.markSize
		return mark == b.mark
	})
	return r.bits(b.size) - b.plus
}

func (r *reader) number() api.Num {
	if r.n == 0 {
		return api.Num(r.bits(64))
	}
	if r.bits(1) == 0 {
		return r.last.V
	}
	if r.bits(1) == 1 {
		r.openWindow()
	}
	// Where there is no window yet, this reads no bits, and the number is the same again: no appender writes it so.
	x := r.bits(r.window.size()) << r.window.trailing()
	return r.last.V ^ api.Num(x)
}

// openWindow leaves the old one where the new one would go beyond the lowest bit.
func (r *reader) openWindow() {
	start := int(r.bits(startBits))
	w := window{start, start + int(r.bits(sizeBits)) + 1}
	if w.end > 64 {
		r.wrong = true
		return
	}
	r.window = w
}

func (r *reader) bits(n int) uint64 {
	v, errno := r.in.Bits(n)
	r.note(errno)
	return v
}

func (r *reader) note(errno api.Errno) { r.wrong = r.wrong || errno != api.OK }
