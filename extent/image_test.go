package extent_test

import (
	"encoding/binary"
	"hash/crc32"
	"strings"
)

// span is a run.
type span struct{ first, length int }

// entry is what the directory tells of a file.
type entry struct {
	name string
	kind byte
	size uint32
	sum  uint32
	runs []span
}

// little is a number in so many bytes, the lowest first.
func little(n, bytes int) string {
	return string(binary.LittleEndian.AppendUint64(nil, uint64(n))[:bytes])
}

func checksum(s string) uint32 { return crc32.Checksum([]byte(s), crc32.MakeTable(crc32.Castagnoli)) }

func spansOf(runs []span) string {
	s := little(len(runs), 2)
	for _, r := range runs {
		s += little(r.first, 2) + little(r.length, 2)
	}
	return s
}

func (f entry) bytes() string {
	return little(len(f.name), 1) + f.name + little(int(f.kind), 1) + little(int(f.size), 4) + little(int(f.sum), 4) + spansOf(f.runs)
}

func directoryOf(files ...entry) string {
	s := little(len(files), 2)
	for _, f := range files {
		s += f.bytes()
	}
	return s
}

// root is a slot, and the bytes in the sectors of its directory; a test changes what it tells.
type root struct {
	magic      string
	generation uint64
	length     int
	sum        uint32
	count      int // of the runs
	runs       []span
	behind     string // the bytes behind the runs; zeros are behind it
	end        uint32 // is taken by xor to the slot's own sum
	dir        string
}

// rootOf is a good one, for a good directory.
func rootOf(generation uint64, dir string, runs ...span) root {
	return root{"BGX1", generation, len(dir), checksum(dir), len(runs), runs, "", 0, dir}
}

func (r root) slot() string {
	s := r.magic + little(int(r.generation), 8) + little(r.length, 4) + little(int(r.sum), 4)
	s += little(r.count, 2) + spansOf(r.runs)[2:] + r.behind
	s += strings.Repeat("\x00", 252-len(s))
	return s + little(int(checksum(s)^r.end), 4)
}

// sectors is how many the runs denote.
func (r root) sectors() int {
	n := 0
	for _, run := range r.runs {
		n += run.length
	}
	return n
}

// lay puts the slot, and the directory into those of its sectors that the disk has.
func (r root) lay(image []byte, number int) {
	copy(image[256*number:256*number+256], r.slot())
	rest := r.dir
	for _, run := range r.runs {
		for at := run.first; at < run.first+run.length; at++ {
			if at >= 2 && 256*at < len(image) && rest != "" {
				b := image[256*at : 256*at+256]
				clear(b)
				rest = rest[copy(b, rest):]
			}
		}
	}
}
