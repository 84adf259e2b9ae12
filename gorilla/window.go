package gorilla

import zeros "math/bits"

// How many bits tell a window's start, and its size.
const (
	startBits = 5
	sizeBits  = 6
	mostStart = 1<<startBits - 1
)

// window is from which bit on, counted from the highest, and up to which, the bits lie in which two numbers differ. That of zeros, which is from 0 to 0, has room for none, and stands for none.
type window struct{ start, end int }

// windowOf is the one that x opens; x is not 0.
func windowOf(x uint64) window {
	return window{min(zeros.LeadingZeros64(x), mostStart), 64 - zeros.TrailingZeros64(x)}
}

func (w window) holds(v window) bool { return w.start <= v.start && v.end <= w.end }

func (w window) size() int { return w.end - w.start }

func (w window) trailing() int { return 64 - w.end }
