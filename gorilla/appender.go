package gorilla

import (
	"barograph/api"
	"barograph/bits"
)

// past is what the next sample is written by, and read by.
type past struct {
	n      int // samples so far
	last   api.Sample
	gap    uint64 // between the times of the last two
	window window
}

func (p *past) push(s api.Sample) {
	p.gap = uint64(s.T - p.last.T)
	p.last = s
	p.n++
}

// Appender makes a chunk.
type Appender struct {
	past
	from int64
	out  *bits.Writer
}

// New is one without samples.
func New() *Appender { return &Appender{out: bits.New()} }

// Append lays a sample behind.
func (a *Appender) Append(s api.Sample) api.Errno {
	switch {
	case !inRange(s.T):
		return api.ErrRange
	case a.n > 0 && s.T <= a.last.T:
		return api.ErrGorillaOrder
	case a.n == api.ChunkSize:
		return api.ErrGorillaMany
	}
	a.put(s)
	return api.OK
}

func inRange(t int64) bool { return -api.MaxTime <= t && t <= api.MaxTime }

// Chunk is what there is so far.
func (a *Appender) Chunk() api.Chunk {
	return api.Chunk{From: a.from, To: a.last.T, N: a.n, Data: a.out.Bytes()}
}

// put is for a sample that may be appended.
func (a *Appender) put(s api.Sample) {
	if a.n == 0 {
		a.from = s.T
		a.out.Signed(s.T)
		a.out.Bits(uint64(s.V), 64)
	} else {
		a.putTime(s.T)
		a.putNumber(s.V)
	}
	a.push(s)
}

// putTime is for the second sample and the later ones.
func (a *Appender) putTime(t int64) {
	gap := uint64(t - a.last.T)
	if a.n == 1 {
		a.out.Varint(gap)
		return
	}
	step := gap - a.gap
	b := firstBucket(func(b bucket) bool { return b.has(step) })
	a.out.Bits(b.mark, b.markSize)
	a.out.Bits(step+b.plus, b.size)
}

// putNumber is for the second sample and the later ones.
func (a *Appender) putNumber(v api.Num) {
	x := uint64(v ^ a.last.V)
	a.out.Bit(x != 0)
	if x == 0 {
		return
	}
	w := windowOf(x)
	isNew := !a.window.holds(w)
	a.out.Bit(isNew)
	if isNew {
		a.out.Bits(uint64(w.start), startBits)
		a.out.Bits(uint64(w.size()-1), sizeBits)
		a.window = w
	}
	a.out.Bits(x>>a.window.trailing(), a.window.size())
}
