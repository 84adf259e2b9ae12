package wal

import (
	"math"
	"slices"
	"strconv"

	"barograph/api"
	"barograph/extent"
	"barograph/frame"
)

// The files: the list of the segments, and for each of them a log, with its number behind that prefix.
const (
	listName = "wal"
	prefix   = "wal."
)

// The list is the number of segments, and an entry for each.
const (
	countSize  = 2
	numberSize = 4
	entrySize  = numberSize + 1
)

const (
	lastNumber  = 1 << 31
	maxSegments = math.MaxUint16 // the list can't count more
	open        = 255            // stands in the list in the place of how many sectors are in use
)

// segment is what the list tells of one.
type segment struct {
	number uint32
	used   int // sectors, or open
}

func (g segment) isOpen() bool { return g.used == open }

func (g segment) logName() string { return prefix + strconv.FormatUint(uint64(g.number), 10) }

// following is the open segment that comes behind some; an error: there can be no such one.
func following(l []segment) (segment, error) {
	next := segment{1, open}
	if len(l) > 0 {
		next.number = l[len(l)-1].number + 1
	}
	if next.number > lastNumber {
		return segment{}, failed("number a segment", api.ErrFull)
	}
	return next, nil
}

// read are a segment's records, and how many sectors they take.
func (g segment) read(s *extent.Store) ([][]byte, int, error) {
	sectors := make([][]byte, min(g.used, api.Segment)) // of an open one, any may be in use
	for i := range sectors {
		b, e := s.Sector(g.logName(), i)
		if err := failed("read "+g.logName(), e); err != nil {
			return nil, 0, err
		}
		sectors[i] = b
	}
	records, taken := frame.Scan(g.number, sectors)
	if !g.isOpen() && taken != g.used {
		return nil, 0, failed("scan "+g.logName(), api.ErrWalForm)
	}
	return records, taken, nil
}

// readList are the segments that a store's list tells of.
func readList(s *extent.Store) ([]segment, error) {
	b, e := s.Get(listName)
	if err := failed("read "+listName, e); err != nil {
		return nil, err
	}
	l, ok := decode(b)
	if !ok {
		return nil, failed("decode "+listName, api.ErrWalForm)
	}
	return l, nil
}

// encode is the list as bytes.
func encode(l []segment) []byte {
	b := appendNumber(nil, countSize, uint32(len(l)))
	for _, g := range l {
		b = appendNumber(b, numberSize, g.number)
		b = append(b, byte(g.used))
	}
	return b
}

// decode is the list that bytes tell; false: they are no list.
func decode(b []byte) ([]segment, bool) {
	if len(b) < countSize || len(b) != countSize+entrySize*int(number(b[:countSize])) {
		return nil, false
	}
	var l []segment
	before := segment{}
	for entry := range slices.Chunk(b[countSize:], entrySize) {
		g := segment{number(entry[:numberSize]), int(entry[numberSize])}
		if !g.mayFollow(before) {
			return nil, false
		}
		l = append(l, g)
		before = g
	}
	return l, true
}

// mayFollow tells whether the list may have a segment behind another one, or behind none, which has the number 0.
func (g segment) mayFollow(before segment) bool {
	if before.isOpen() || g.number <= before.number || g.number > lastNumber {
		return false
	}
	return g.used <= api.Segment || g.isOpen()
}

// appendNumber takes so many bytes of a number, the lowest first.
func appendNumber(b []byte, bytes int, n uint32) []byte {
	for range bytes {
		b = append(b, byte(n))
		n >>= 8
	}
	return b
}

// number is the one that bytes are, the lowest first.
func number(b []byte) uint32 {
	var n uint32
	for i, c := range b {
		n |= uint32(c) << (8 * i)
	}
	return n
}
