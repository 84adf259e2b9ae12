package frame

import (
	"bytes"
	"math"

	"barograph/api"
	"barograph/crc"
)

// A sector begins with magic, and ends with the sum of all bytes ahead of it; what is not told of it is zero.
const (
	magic     = "BL"
	kindAt    = 2
	segmentAt = 4
	numberAt  = 8
	lengthAt  = 10
	pieceAt   = 12
	sumAt     = api.Sector - 4
)

// Kinds of pieces.
const (
	whole  = 1
	first  = 2
	middle = 3
	last   = 4
)

// piece is what a sector has of a record.
type piece struct {
	begins, ends bool // the record
	bytes        []byte
}

func (p piece) kind() byte {
	switch {
	case p.begins && p.ends:
		return whole
	case p.begins:
		return first
	case p.ends:
		return last
	}
	return middle
}

// write is for a sector of zeros.
func (p piece) write(sector []byte, segment uint32, number int) {
	copy(sector, magic)
	sector[kindAt] = p.kind()
	putNumber(sector[segmentAt:numberAt], segment)
	putNumber(sector[numberAt:lengthAt], uint32(number))
	putNumber(sector[lengthAt:pieceAt], uint32(len(p.bytes)))
	copy(sector[pieceAt:], p.bytes)
	putNumber(sector[sumAt:], crc.Sum(sector[:sumAt]))
}

// putNumber fills b, the lowest byte first.
func putNumber(b []byte, n uint32) {
	for i := range b {
		b[i] = byte(n >> (8 * i))
	}
}

// read is the piece of the sector with that number; false: it is no such sector. A piece has one form there, so it is one if write makes the same of what it says.
func read(sector []byte, segment uint32, number int) (piece, bool) {
	if len(sector) != api.Sector || number > math.MaxUint16 {
		// A number beyond that has no form: two bytes can't hold it.
		return piece{}, false
	}
	end := pieceAt + int(sector[lengthAt]) + int(sector[lengthAt+1])<<8
	if end > sumAt {
		return piece{}, false
	}
	p := piece{bytes: sector[pieceAt:end:end]}
	switch sector[kindAt] {
	case whole:
		p.begins = true
		fallthrough
	case last:
		p.ends = true
	case first:
		p.begins = true
	}
	var same [api.Sector]byte
	p.write(same[:], segment, number)
	if !p.hasItsSize() || !bytes.Equal(sector, same[:]) {
		return piece{}, false
	}
	return p, true
}

// hasItsSize tells whether a piece of that kind may have so many bytes.
func (p piece) hasItsSize() bool {
	if !p.ends {
		return len(p.bytes) == api.Payload
	}
	return p.begins || len(p.bytes) > 0
}
