package index

import (
	"errors"

	"barograph/api"
	"barograph/crc"
)

// maxSymbols is how many the labels of as many entries as there may be can have.
const maxSymbols = 2 * api.MaxLabels * api.MaxSeries

// cutSum cuts off the sum that an index ends with; false: it is not that of the bytes ahead of it, or b has no room for one.
func cutSum(b []byte) (content []byte, ok bool) {
	if len(b) < sumSize {
		return nil, false
	}
	content = b[:len(b)-sumSize]
	end := reader{rest: b[len(content):]}
	return content, uint32(end.number(sumSize)) == crc.Sum(content)
}

// errMalformed is what a reader panics with when it gives up.
var errMalformed = errors.New("malformed")

// reader reads an index, and gives up where bytes lack, or where a number tells of more than an index has.
type reader struct {
	rest    []byte
	symbols []string
}

// readEntries reads as far as the entries go, for what is behind them hangs on them; false: the reader gave up.
func readEntries(b []byte) (l []api.Entry, ok bool) {
	defer func() {
		if r := recover(); r != nil && r != errMalformed {
			panic(r)
		}
	}()
	r := &reader{rest: b}
	r.must(string(r.take(len(magic))) == magic)
	for range r.upTo(maxSymbols, 4) {
		r.symbols = append(r.symbols, string(r.take(r.upTo(api.MaxLabel, 2))))
	}
	for range r.upTo(api.MaxSeries, 4) {
		l = append(l, r.entry())
	}
	return l, true
}

// must gives up unless it holds.
func (r *reader) must(holds bool) {
	if !holds {
		panic(errMalformed)
	}
}

// take reads so many bytes.
func (r *reader) take(n int) []byte {
	r.must(n <= len(r.rest))
	b := r.rest[:n]
	r.rest = r.rest[n:]
	return b
}

// number reads one of so many bytes, the lowest first.
func (r *reader) number(bytes int) uint64 {
	var v uint64
	for i, c := range r.take(bytes) {
		v |= uint64(c) << (8 * i)
	}
	return v
}

// upTo reads a number that is not greater than most.
func (r *reader) upTo(most, bytes int) int {
	v := r.number(bytes)
	r.must(v <= uint64(most))
	return int(v)
}

func (r *reader) entry() api.Entry {
	var e api.Entry
	for range r.upTo(api.MaxLabels, 1) {
		e.Labels = append(e.Labels, api.Label{Name: r.symbol(), Value: r.symbol()})
	}
	for range r.number(4) {
		e.Chunks = append(e.Chunks, r.place())
	}
	return e
}

// symbol reads the number of one.
func (r *reader) symbol() string {
	n := r.number(4)
	r.must(n < uint64(len(r.symbols)))
	return r.symbols[n]
}

func (r *reader) place() api.Place {
	return api.Place{
		From: int64(r.number(8)),
		To:   int64(r.number(8)),
		N:    int(r.number(2)),
		At:   int(r.number(4)),
		Size: int(r.number(4)),
	}
}
