package extent

import (
	"maps"
	"slices"

	"barograph/api"
	"barograph/crc"
)

// A slot begins with magic, and ends with the sum of all bytes ahead of it.
const (
	slots = 2 // the first sectors
	magic = "BGX1"
	sumAt = api.Sector - 4
)

// run is some sectors, one next to another.
type run struct{ first, length int }

// runsOf puts those of a list that follow one another together.
func runsOf(sectors []int) []run {
	var runs []run
	for i, at := range sectors {
		if i > 0 && at == sectors[i-1]+1 {
			runs[len(runs)-1].length++
		} else {
			runs = append(runs, run{at, 1})
		}
	}
	return runs
}

// file is what the directory tells of one. It is never changed, for the current files and the next ones may share its sectors.
type file struct {
	log     bool
	size    int // bytes; of a log its sectors
	sum     uint32
	sectors []int
}

// needs is how many sectors a file of that size has.
func (f file) needs() int {
	if f.log {
		return f.size
	}
	return sectorsFor(f.size)
}

func sectorsFor(bytes int) int { return (bytes + api.Sector - 1) / api.Sector }

// directory has files by their names.
type directory map[string]file

func (d directory) names() []string { return slices.Sorted(maps.Keys(d)) }

// encode is the directory's form on a disk.
func (d directory) encode() []byte {
	b := appendNumber(nil, 2, len(d))
	for _, name := range d.names() {
		f := d[name]
		b = appendNumber(b, 1, len(name))
		b = append(b, name...)
		kind := 0
		if f.log {
			kind = 1
		}
		b = appendNumber(b, 1, kind)
		b = appendNumber(b, 4, f.size)
		b = appendNumber(b, 4, f.sum)
		b = appendRuns(b, f.sectors)
	}
	return b
}

// encodeSlot are the bytes of a slot that tells of this directory.
func encodeSlot(generation uint64, data []byte, home []int) []byte {
	b := append([]byte(nil), magic...)
	b = appendNumber(b, 8, generation)
	b = appendNumber(b, 4, len(data))
	b = appendNumber(b, 4, crc.Sum(data))
	b = appendRuns(b, home)
	b = append(b, make([]byte, sumAt-len(b))...)
	return appendNumber(b, 4, crc.Sum(b))
}

func appendRuns(b []byte, sectors []int) []byte {
	runs := runsOf(sectors)
	b = appendNumber(b, 2, len(runs))
	for _, r := range runs {
		b = appendNumber(b, 2, r.first)
		b = appendNumber(b, 2, r.length)
	}
	return b
}

// appendNumber takes so many bytes of a number, the lowest first.
func appendNumber[T int | uint32 | uint64](b []byte, bytes int, n T) []byte {
	for range bytes {
		b = append(b, byte(n))
		n >>= 8
	}
	return b
}

// isName tells whether a file may have that name.
func isName(name string) bool {
	return name != "" && len(name) <= api.MaxName && !slices.ContainsFunc([]byte(name), isForbidden)
}

func isForbidden(c byte) bool {
	return !('a' <= c && c <= 'z' || '0' <= c && c <= '9' || c == '.' || c == '-')
}
