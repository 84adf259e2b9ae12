package regex

import "math/bits"

// set is a set of bytes, a bit for each.
type set [4]uint64

// only is the set of one byte.
func only(c byte) set { return span(c, c) }

// span is the set of the bytes from one to another one, both in it.
func span(from, to byte) set {
	var x set
	for c := int(from); c <= int(to); c++ {
		x[c/64] |= 1 << (c % 64)
	}
	return x
}

func (x set) has(c byte) bool { return x[c/64]>>(c%64)&1 == 1 }

// and is the set of what is in x or in y.
func (x set) and(y set) set {
	for i := range x {
		x[i] |= y[i]
	}
	return x
}

// others are the bytes that are not in x.
func (x set) others() set {
	for i := range x {
		x[i] = ^x[i]
	}
	return x
}

// single is the byte that is in x, if there is just one.
func (x set) single() (c byte, ok bool) {
	count := 0
	for i, word := range x {
		count += bits.OnesCount64(word)
		if word != 0 {
			c = byte(64*i + bits.TrailingZeros64(word))
		}
	}
	if count != 1 {
		return 0, false
	}
	return c, true
}
