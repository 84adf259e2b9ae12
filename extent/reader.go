package extent

import (
	"errors"

	"barograph/api"
	"barograph/crc"
)

// errMalformed is what a reader panics with when it gives up.
var errMalformed = errors.New("malformed")

// unlessMalformed makes an attempt to read, and tells whether no reader gave up.
func unlessMalformed(attempt func()) (ok bool) {
	defer func() {
		if r := recover(); r != nil && r != errMalformed {
			panic(r)
		}
	}()
	attempt()
	return true
}

// reader reads the forms of a disk, and gives up where they are not kept.
type reader struct {
	data  []byte
	taken []bool // the sectors of the disk: those that a run has denoted
}

// must gives up unless it holds.
func (r *reader) must(holds bool) {
	if !holds {
		panic(errMalformed)
	}
}

// take reads so many bytes.
func (r *reader) take(n int) []byte {
	r.must(n <= len(r.data))
	b := r.data[:n]
	r.data = r.data[n:]
	return b
}

// number reads one of so many bytes, the lowest first.
func (r *reader) number(bytes int) uint64 {
	var v uint64
	for i, c := range r.take(bytes) {
		v |= uint64(c) << (8 * i)
	}
	return v
}

// upTo reads a number that is not greater than most.
func (r *reader) upTo(most, bytes int) int {
	v := r.number(bytes)
	r.must(v <= uint64(most))
	return int(v)
}

// zeros reads all that is left.
func (r *reader) zeros() {
	for _, c := range r.take(len(r.data)) {
		r.must(c == 0)
	}
}

// sectors reads runs of so many sectors, of which none was denoted before; apart: no run begins where the one before it ends.
func (r *reader) sectors(want int) (sectors []int, apart bool) {
	runs := r.upTo(api.MaxRuns, 2)
	for range runs {
		first, length := r.upTo(api.MaxSectors, 2), r.upTo(api.MaxSectors, 2)
		r.must(first >= slots && length >= 1 && first+length <= len(r.taken))
		for at := first; at < first+length; at++ {
			r.must(!r.taken[at])
			r.taken[at] = true
			sectors = append(sectors, at)
		}
	}
	r.must(len(sectors) == want)
	return sectors, len(runsOf(sectors)) == runs
}

// slot is what a readable one tells.
type slot struct {
	generation uint64
	length     int // of the directory, in bytes
	sum        uint32
	home       []int // the directory's sectors
	apart      bool
	taken      []bool // of the disk's sectors, those
}

func hasMagic(b []byte) bool { return string(b[:len(magic)]) == magic }

// readSlot reads one of a disk with so many sectors; false: it is not readable.
func readSlot(b []byte, sectors int) (slot, bool) {
	x := slot{taken: make([]bool, sectors)}
	ok := unlessMalformed(func() {
		r := &reader{b[:sumAt], x.taken}
		r.must(hasMagic(r.take(len(magic))))
		x.generation = r.number(8)
		x.length = r.upTo(api.MaxSectors*api.Sector, 4)
		x.sum = uint32(r.number(4))
		r.must(x.length > 0)
		x.home, x.apart = r.sectors(sectorsFor(x.length))
		r.zeros()
		end := &reader{data: b[sumAt:]}
		r.must(uint32(end.number(4)) == crc.Sum(b[:sumAt]))
	})
	return x, ok
}

// readDirectory reads what the sectors of a slot's directory hold; false: the slot is not good.
func readDirectory(x slot, data []byte) (directory, bool) {
	files := directory{}
	ok := unlessMalformed(func() {
		r := &reader{data[:x.length], x.taken}
		r.must(x.apart && crc.Sum(r.data) == x.sum)
		before := ""
		for range r.upTo(api.MaxFiles, 2) {
			name := string(r.take(r.upTo(api.MaxName, 1)))
			r.must(isName(name) && name > before)
			files[name] = r.file()
			before = name
		}
		r.must(len(r.data) == 0)
		r.data = data[x.length:]
		r.zeros()
	})
	return files, ok
}

// file reads what the directory tells of one, behind its name.
func (r *reader) file() file {
	f := file{log: r.upTo(1, 1) == 1}
	f.size = r.upTo(api.MaxSectors*api.Sector, 4)
	f.sum = uint32(r.number(4))
	if f.log {
		r.must(f.size >= 1 && f.size <= api.MaxSectors && f.sum == 0)
	}
	sectors, apart := r.sectors(f.needs())
	r.must(apart)
	f.sectors = sectors
	return f
}
