package frame_test

import (
	"bytes"
	"hash/crc32"
	"regexp"
	"slices"
	"strconv"
	"testing"

	"barograph/api"
	"barograph/frame"
)

// This file has what the chapter says of the calls, word for word and without haste; the other tests hold the package against it.

// The calls have these signatures.
var (
	_ func(uint32, int, []byte) ([][]byte, api.Errno) = frame.Split
	_ func(uint32, [][]byte) ([][]byte, int)          = frame.Scan
)

// dice are numbers without a pattern, the same ones at every run.
type dice uint64

func (d *dice) number() uint64 {
	*d = *d*6364136223846793005 + 1442695040888963407
	return uint64(*d)>>33 ^ uint64(*d)<<31
}

func (d *dice) below(n int) int { return int(d.number() >> 3 % uint64(n)) }

func (d *dice) bytes(n int) []byte {
	b := make([]byte, n)
	for i := range b {
		b[i] = byte(d.number() >> 20)
	}
	return b
}

// someBytes are n bytes without a pattern, the same ones at every call with that seed, and none of them 0.
func someBytes(n int, seed dice) []byte {
	b := seed.bytes(n)
	for i, c := range b {
		b[i] = max(1, c)
	}
	return b
}

// summed are bytes with their checksum behind them.
func summed(b []byte) []byte {
	x := crc32.Checksum(b, crc32.MakeTable(crc32.Castagnoli))
	return append(slices.Clone(b), byte(x), byte(x>>8), byte(x>>16), byte(x>>24))
}

// sum is a sector with the right checksum at its end.
func sum(sector []byte) []byte { return summed(sector[:252]) }

// sectorOf is a sector with these fields, whether or not they may be in one.
func sectorOf(kind byte, segment uint32, number, length int, piece []byte) []byte {
	b := []byte{0x42, 0x4c, kind, 0}
	b = append(b, byte(segment), byte(segment>>8), byte(segment>>16), byte(segment>>24))
	b = append(b, byte(number), byte(number>>8))
	b = append(b, byte(length), byte(length>>8))
	b = append(b, piece...)
	for len(b) < 256 {
		b = append(b, 0)
	}
	return sum(b)
}

// one is a sector with a piece of that kind.
func one(kind byte, segment uint32, number int, piece []byte) []byte {
	return sectorOf(kind, segment, number, len(piece), piece)
}

// splitOf is what the chapter says of Split.
func splitOf(segment uint32, at int, record []byte) ([][]byte, api.Errno) {
	if len(record) > 7680 {
		return nil, api.ErrFrameLong
	}
	pieces := [][]byte{record[:min(240, len(record))]}
	for rest := record[len(pieces[0]):]; len(rest) > 0; {
		n := min(240, len(rest))
		pieces = append(pieces, rest[:n])
		rest = rest[n:]
	}
	free := 0
	for number := range 32 {
		if number >= at {
			free++
		}
	}
	if at < 0 || len(pieces) > free {
		return nil, api.ErrArg
	}
	if len(pieces) == 1 {
		return [][]byte{one(1, segment, at, pieces[0])}, api.OK
	}
	var sectors [][]byte
	for i, piece := range pieces {
		kind := byte(3)
		if i == 0 {
			kind = 2
		}
		if i == len(pieces)-1 {
			kind = 4
		}
		sectors = append(sectors, one(kind, segment, at+i, piece))
	}
	return sectors, api.OK
}

// pieceOf is the kind and the piece of a sector; 0: it has not the form and the checksum, or not these numbers.
func pieceOf(segment uint32, number int, s []byte) (byte, []byte) {
	if len(s) != 256 || s[0] != 0x42 || s[1] != 0x4c || s[2] < 1 || s[2] > 4 || s[3] != 0 {
		return 0, nil
	}
	if uint32(s[4])+uint32(s[5])*0x100+uint32(s[6])*0x10000+uint32(s[7])*0x1000000 != segment {
		return 0, nil
	}
	if int(s[8])+int(s[9])*0x100 != number {
		return 0, nil
	}
	length := int(s[10]) + int(s[11])*0x100
	if length > 240 {
		return 0, nil
	}
	for _, c := range s[12+length : 252] {
		if c != 0 {
			return 0, nil
		}
	}
	if !bytes.Equal(s, sum(s)) {
		return 0, nil
	}
	return s[2], s[12 : 12+length]
}

// A record is a whole one, or a first one, any number of middle ones, and a last one.
var oneRecord = regexp.MustCompile(`^(1|23*4)`)

// scanOf is what the chapter says of Scan.
func scanOf(segment uint32, sectors [][]byte) ([][]byte, int) {
	kinds := ""
	var pieces [][]byte
	for i, s := range sectors {
		kind, piece := pieceOf(segment, i, s)
		if kind == 0 {
			break
		}
		kinds += strconv.Itoa(int(kind))
		pieces = append(pieces, piece)
	}
	var records [][]byte
	occupied := 0
	for {
		n := len(oneRecord.FindString(kinds[occupied:]))
		if n == 0 {
			return records, occupied
		}
		of := pieces[occupied : occupied+n]
		for _, piece := range of[:n-1] {
			if len(piece) != 240 {
				return records, occupied
			}
		}
		if n > 1 && len(of[n-1]) == 0 {
			return records, occupied
		}
		record := bytes.Join(of, nil)
		if len(record) > 7680 {
			return records, occupied
		}
		records = append(records, record)
		occupied += n
	}
}

func same(a, b [][]byte) bool { return slices.EqualFunc(a, b, bytes.Equal) }

func sizes(l [][]byte) []int {
	n := make([]int, len(l))
	for i, b := range l {
		n[i] = len(b)
	}
	return n
}

// splits tells that Split answers these sectors.
func splits(t *testing.T, segment uint32, at int, record []byte, want [][]byte) {
	t.Helper()
	got, errno := frame.Split(segment, at, record)
	if errno != api.OK || !same(got, want) {
		t.Errorf("Split(%d, %d, %d bytes) = %x, %v, want %x", segment, at, len(record), got, errno, want)
	}
}

// splitFails tells that Split answers that error, and nothing else.
func splitFails(t *testing.T, at int, record []byte, want api.Errno) {
	t.Helper()
	for _, segment := range []uint32{0, 1, 1<<32 - 1} {
		if got, errno := frame.Split(segment, at, record); errno != want || len(got) != 0 {
			t.Errorf("Split(%d, %d, %d bytes): %d sectors, %v, want %v", segment, at, len(record), len(got), errno, want)
		}
	}
}

// splitsAsTheChapter tells that Split answers what the chapter says, whatever that is.
func splitsAsTheChapter(t *testing.T, segment uint32, at int, record []byte) api.Errno {
	t.Helper()
	want, errno := splitOf(segment, at, record)
	if errno == api.OK {
		splits(t, segment, at, record, want)
	} else {
		splitFails(t, at, record, errno)
	}
	return errno
}

// scans tells that Scan answers these records, in so many sectors.
func scans(t *testing.T, segment uint32, sectors, want [][]byte, occupied int) {
	t.Helper()
	got, n := frame.Scan(segment, sectors)
	if n != occupied || !same(got, want) {
		t.Errorf("Scan of %d sectors: records of %v bytes in %d sectors, want %v in %d", len(sectors), sizes(got), n, sizes(want), occupied)
	}
}

// scansAsTheChapter tells that Scan answers what the chapter says, whatever that is, and how many sectors these are.
func scansAsTheChapter(t *testing.T, segment uint32, sectors [][]byte) int {
	t.Helper()
	want, occupied := scanOf(segment, sectors)
	scans(t, segment, sectors, want, occupied)
	return occupied
}

// laid are records one behind the other, from the start of a segment on.
func laid(t *testing.T, segment uint32, records ...[]byte) [][]byte {
	t.Helper()
	var sectors [][]byte
	for _, r := range records {
		l, errno := splitOf(segment, len(sectors), r)
		if errno != api.OK {
			t.Fatalf("records of %v bytes have no room in a segment", sizes(records))
		}
		sectors = append(sectors, l...)
	}
	return sectors
}

// copied is a copy of a list and of all that it has.
func copied(l [][]byte) [][]byte {
	c := slices.Clone(l)
	for i, b := range c {
		c[i] = bytes.Clone(b)
	}
	return c
}
