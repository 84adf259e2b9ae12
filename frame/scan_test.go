package frame_test

import (
	"bytes"
	"slices"
	"testing"

	"barograph/frame"
)

func TestExamplesOfScan(t *testing.T) {
	record := make([]byte, 241)
	sectors := append(split(t, 1, 0, record), make([]byte, 256))
	scans(t, 1, sectors, [][]byte{record}, 2)
	scans(t, 2, sectors, nil, 0)
}

func TestScanOfNothing(t *testing.T) {
	for _, sectors := range [][][]byte{nil, {}, {nil}, {{}}, {make([]byte, 256)}, {nil, nil}, {make([]byte, 256), one(1, 1, 1, nil)}} {
		for _, segment := range []uint32{0, 1, 1<<32 - 1} {
			scans(t, segment, sectors, nil, 0)
		}
	}
}

func TestScanOfWhatSplitGives(t *testing.T) {
	for size, n := range edges() {
		record := someBytes(size, dice(size))
		for _, segment := range []uint32{0, 1, 0x04030201, 1<<32 - 1} {
			scans(t, segment, split(t, segment, 0, record), [][]byte{record}, n)
		}
	}
	for size := range 7681 {
		record := someBytes(size, dice(size))
		sectors := split(t, 3, 0, record)
		scans(t, 3, sectors, [][]byte{record}, len(sectors))
	}
}

// several are some records that stand one behind the other, of one piece and of more.
func several() [][]byte {
	return [][]byte{someBytes(5, 1), nil, someBytes(240, 2), someBytes(241, 3), someBytes(480, 4), nil, someBytes(700, 5), someBytes(1, 6), someBytes(721, 7)}
}

// ends are how many sectors the records take up to each one.
func ends(records [][]byte) []int {
	l := []int{0}
	for _, r := range records {
		l = append(l, l[len(l)-1]+max(1, (len(r)+239)/240))
	}
	return l
}

// before are the records that are complete ahead of a sector, and how many sectors these take.
func before(records [][]byte, sector int) ([][]byte, int) {
	complete := 0
	for i, end := range ends(records) {
		if end <= sector {
			complete = i
		}
	}
	return records[:complete], ends(records)[complete]
}

func TestScanOfSeveralRecords(t *testing.T) {
	records := several()
	sectors := laid(t, 8, records...)
	scans(t, 8, sectors, records, len(sectors))
	for _, behind := range [][]byte{nil, make([]byte, 256), one(1, 9, len(sectors), nil), one(1, 8, len(sectors)+1, nil), one(3, 8, len(sectors), make([]byte, 240))} {
		scans(t, 8, append(slices.Clone(sectors), behind, one(1, 8, len(sectors)+1, nil)), records, len(sectors))
	}
	// Thirty-two of one piece each fill a segment, and so does one of thirty-two pieces.
	var many [][]byte
	for i := range 32 {
		many = append(many, someBytes(i*7, dice(i)))
	}
	scans(t, 8, laid(t, 8, many...), many, 32)
	empty := make([][]byte, 32)
	scans(t, 8, laid(t, 8, empty...), empty, 32)
}

// A record that isn't complete at the end is none, and those ahead of it are.
func TestScanOfWhatEndsTooEarly(t *testing.T) {
	records := several()
	sectors := laid(t, 8, records...)
	for n := range len(sectors) + 1 {
		want, occupied := before(records, n)
		scans(t, 8, sectors[:n], want, occupied)
		scans(t, 8, sectors[:n:n], want, occupied)
		scans(t, 8, append(slices.Clone(sectors[:n]), make([]byte, 256)), want, occupied)
		scansAsTheChapter(t, 8, sectors[:n])
	}
	for n := range 32 {
		scans(t, 8, split(t, 8, 0, someBytes(7680, 1))[:n], nil, 0)
	}
}

// spoiled tells that Scan ends ahead of a record once one of its sectors is another one.
func spoiled(t *testing.T, records [][]byte, at int, sector []byte) {
	t.Helper()
	sectors := laid(t, 8, records...)
	sectors[at] = sector
	want, occupied := before(records, at)
	scans(t, 8, sectors, want, occupied)
	scansAsTheChapter(t, 8, sectors)
}

func TestScanWithoutASector(t *testing.T) {
	records := several()
	sectors := laid(t, 8, records...)
	for at := range sectors {
		want, occupied := before(records, at)
		scans(t, 8, slices.Delete(slices.Clone(sectors), at, at+1), want, occupied)
		spoiled(t, records, at, nil)
		spoiled(t, records, at, make([]byte, 256))
	}
}

func TestScanOfSectorsTwiceAndInAnotherOrder(t *testing.T) {
	records := several()
	sectors := laid(t, 8, records...)
	for i := range sectors {
		// The second of two is one place too far.
		want, occupied := before(records, i+1)
		scans(t, 8, slices.Insert(slices.Clone(sectors), i, sectors[i]), want, occupied)
		for j := range i {
			spoiled(t, records, i, sectors[j])
			spoiled(t, records, j, sectors[i])
			swapped := slices.Clone(sectors)
			swapped[i], swapped[j] = sectors[j], sectors[i]
			want, occupied := before(records, j)
			scans(t, 8, swapped, want, occupied)
		}
	}
	slices.Reverse(sectors)
	scans(t, 8, sectors, nil, 0)
}

// A sector of another segment, or of another place in it, is none, in whichever byte its number is another one.
func TestScanOfSectorsFromElsewhere(t *testing.T) {
	records := several()
	right := laid(t, 8, records...)
	for at, s := range right {
		for bit := range 32 {
			other := slices.Clone(s)
			other[4+bit/8] ^= 1 << (bit % 8)
			spoiled(t, records, at, sum(other))
			scans(t, 8^1<<bit, right, nil, 0)
		}
		for bit := range 16 {
			other := slices.Clone(s)
			other[8+bit/8] ^= 1 << (bit % 8)
			spoiled(t, records, at, sum(other))
		}
	}
	for _, at := range []int{1, 2, 23} {
		scans(t, 8, split(t, 8, at, []byte("ab")), nil, 0)
		scans(t, 8, split(t, 8, at, someBytes(2000, 1)), nil, 0)
	}
}

func TestScanOfSectorsOfAnotherSize(t *testing.T) {
	records := several()
	for at, s := range laid(t, 8, records...) {
		for n := range 256 {
			spoiled(t, records, at, s[:n])
			spoiled(t, records, at, s[:n:n])
		}
		for _, more := range []int{1, 2, 4, 255, 256, 257} {
			spoiled(t, records, at, append(slices.Clone(s), make([]byte, more)...))
			spoiled(t, records, at, append(make([]byte, more), s...))
		}
		spoiled(t, records, at, append(slices.Clone(s), s...))
		// Also with the right checksum at their end, of fewer bytes or of more.
		spoiled(t, records, at, summed(s[:251]))
		spoiled(t, records, at, summed(append(slices.Clone(s[:252]), 0)))
	}
}

func TestScanWithAnyBitChanged(t *testing.T) {
	records := several()
	for at, s := range laid(t, 8, records...) {
		for bit := range 8 * 256 {
			other := slices.Clone(s)
			other[bit/8] ^= 1 << (bit % 8)
			spoiled(t, records, at, other)
		}
	}
}

// With the right checksum: each value of each byte that isn't the piece's, but for those that say the same.
func TestScanWithAnyByteOfTheFormChanged(t *testing.T) {
	records := [][]byte{someBytes(5, 1), someBytes(300, 2), someBytes(500, 3), someBytes(240, 4), nil}
	sectors := laid(t, 8, records...)
	for at, s := range sectors {
		length := int(s[10])
		want, occupied := before(records, at)
		changed := slices.Clone(sectors)
		for place := range 252 {
			if place >= 12 && place < 12+length || place == 2 || place == 10 {
				continue
			}
			for c := range 256 {
				if byte(c) == s[place] {
					continue
				}
				other := slices.Clone(s)
				other[place] = byte(c)
				changed[at] = sum(other)
				scans(t, 8, changed, want, occupied)
			}
		}
	}
}

// A byte other than 0 behind the piece is found wherever it is, whatever the size of the piece is.
func TestScanOfZerosThatAreNone(t *testing.T) {
	for size := range 240 {
		s := one(1, 1, 0, someBytes(size, 1))
		for place := 12 + size; place < 252; place++ {
			for _, c := range []byte{1, 0x80, 0xff} {
				other := slices.Clone(s)
				other[place] = c
				scans(t, 1, [][]byte{sum(other)}, nil, 0)
			}
		}
	}
}

func TestScanOfKindsThatAreNone(t *testing.T) {
	record := someBytes(240, 1)
	for kind := range 256 {
		sectors := [][]byte{one(1, 1, 0, nil), one(byte(kind), 1, 1, record), one(1, 1, 2, nil)}
		if kind == 1 {
			scans(t, 1, sectors, [][]byte{nil, record, nil}, 3)
		} else {
			scans(t, 1, sectors, [][]byte{nil}, 1)
		}
		within := [][]byte{one(2, 1, 0, record), one(byte(kind), 1, 1, record), one(4, 1, 2, record)}
		switch kind {
		case 3:
			scans(t, 1, within, [][]byte{bytes.Repeat(record, 3)}, 3)
		case 4:
			scans(t, 1, within, [][]byte{bytes.Repeat(record, 2)}, 2)
		default:
			scans(t, 1, within, nil, 0)
		}
	}
}

// A length is at most 240, in both of its bytes, whatever stands behind.
func TestScanOfLengths(t *testing.T) {
	full := someBytes(240, 1)
	for length := range 65536 {
		for _, piece := range [][]byte{nil, full} {
			sectors := [][]byte{sectorOf(1, 1, 0, length, piece), one(1, 1, 1, nil)}
			switch {
			case length == len(piece):
				scans(t, 1, sectors, [][]byte{piece, nil}, 2)
			case length > 240 || len(piece) > 0:
				scans(t, 1, sectors, nil, 0)
			default:
				scans(t, 1, sectors, [][]byte{make([]byte, length), nil}, 2)
			}
		}
	}
	// The piece may not go on into the checksum either.
	for length := 241; length <= 244; length++ {
		for kind := byte(1); kind <= 4; kind++ {
			scans(t, 1, [][]byte{sectorOf(kind, 1, 0, length, full)}, nil, 0)
		}
	}
}

// orders are all the lists of kinds of that many pieces.
func orders(n int) [][]byte {
	if n == 0 {
		return [][]byte{nil}
	}
	var l [][]byte
	for _, o := range orders(n - 1) {
		for kind := byte(1); kind <= 4; kind++ {
			l = append(l, append(slices.Clone(o), kind))
		}
	}
	return l
}

// Every order of kinds, of pieces that all have 240 bytes.
func TestScanOfEveryOrderOfKinds(t *testing.T) {
	for n := range 7 {
		for _, order := range orders(n) {
			var sectors [][]byte
			for i, kind := range order {
				sectors = append(sectors, one(kind, 1, i, someBytes(240, dice(i))))
			}
			scansAsTheChapter(t, 1, sectors)
		}
	}
	// Those that may not be, and how far it goes.
	for _, x := range []struct {
		kinds    string
		occupied int
	}{
		{"3", 0}, {"4", 0}, {"34", 0}, {"2", 0}, {"23", 0}, {"22", 0}, {"224", 0}, {"2324", 0}, {"21", 0}, {"214", 0}, {"231", 0}, {"2314", 0},
		{"13", 1}, {"14", 1}, {"124", 3}, {"1243", 3}, {"1244", 3}, {"1241", 4}, {"24234", 5}, {"2424", 4}, {"11111", 5}, {"2342", 3}, {"23333", 0}, {"23332", 0}, {"233334", 6},
	} {
		var sectors [][]byte
		for i, c := range x.kinds {
			sectors = append(sectors, one(byte(c-'0'), 1, i, make([]byte, 240)))
		}
		if _, n := frame.Scan(1, sectors); n != x.occupied {
			t.Errorf("kinds %s: %d sectors, want %d", x.kinds, n, x.occupied)
		}
	}
}

// All pieces but the last one have 240 bytes, and the last one has at least one, if it isn't the only one.
func TestScanOfPiecesOfEachSize(t *testing.T) {
	full := someBytes(240, 1)
	for size := range 241 {
		piece := someBytes(size, 2)
		scans(t, 1, [][]byte{one(1, 1, 0, piece)}, [][]byte{piece}, 1)

		ending := [][]byte{one(1, 1, 0, nil), one(2, 1, 1, full), one(3, 1, 2, full), one(4, 1, 3, piece), one(1, 1, 4, piece)}
		beginning := [][]byte{one(1, 1, 0, nil), one(2, 1, 1, piece), one(4, 1, 2, full), one(1, 1, 3, piece)}
		within := [][]byte{one(1, 1, 0, nil), one(2, 1, 1, full), one(3, 1, 2, piece), one(4, 1, 3, full), one(1, 1, 4, piece)}
		if size == 0 {
			scans(t, 1, ending, [][]byte{nil}, 1)
		} else {
			scans(t, 1, ending, [][]byte{nil, slices.Concat(full, full, piece), piece}, 5)
		}
		if size < 240 {
			scans(t, 1, beginning, [][]byte{nil}, 1)
			scans(t, 1, within, [][]byte{nil}, 1)
		} else {
			scans(t, 1, beginning, [][]byte{nil, slices.Concat(piece, full), piece}, 4)
			scans(t, 1, within, [][]byte{nil, slices.Concat(full, piece, full), piece}, 5)
		}
	}
	for _, a := range []int{0, 1, 239, 240} {
		for _, b := range []int{0, 1, 239, 240} {
			for _, c := range []int{0, 1, 239, 240} {
				scansAsTheChapter(t, 1, [][]byte{one(2, 1, 0, someBytes(a, 1)), one(3, 1, 1, someBytes(b, 2)), one(4, 1, 2, someBytes(c, 3)), one(1, 1, 3, nil)})
			}
		}
	}
}

// pieces are the sectors of a record of so many full pieces and one of some bytes behind them, from a place on, whether or not it is too long.
func pieces(segment uint32, at, full, behind int) [][]byte {
	sectors := [][]byte{one(2, segment, at, someBytes(240, 1))}
	for i := 1; i < full; i++ {
		sectors = append(sectors, one(3, segment, at+i, someBytes(240, dice(i))))
	}
	return append(sectors, one(4, segment, at+full, someBytes(behind, 2)))
}

// The pieces of a record together have at most 7680 bytes.
func TestScanOfRecordsThatAreTooLong(t *testing.T) {
	for _, at := range []int{0, 1, 17} {
		var ahead, behind [][]byte
		for i := range at {
			ahead = append(ahead, one(1, 1, i, nil))
		}
		for full := 29; full <= 40; full++ {
			for _, size := range []int{0, 1, 2, 239, 240} {
				behind = [][]byte{one(1, 1, at+full+1, []byte("behind"))}
				sectors := slices.Concat(ahead, pieces(1, at, full, size), behind)
				want := at
				if size > 0 && full*240+size <= 7680 {
					want = len(sectors)
				}
				if got := scansAsTheChapter(t, 1, sectors); got != want {
					t.Errorf("%d full pieces and %d bytes from %d on: %d sectors, want %d", full, size, at, got, want)
				}
			}
		}
	}
	// 7680 bytes in thirty-two full pieces that don't end are no record, whatever comes then.
	for kind := byte(1); kind <= 4; kind++ {
		sectors := append(pieces(1, 0, 32, 1)[:32], one(kind, 1, 32, []byte("x")))
		scans(t, 1, sectors, nil, 0)
		scans(t, 1, sectors[:32], nil, 0)
	}
}

// More than thirty-two sectors are treated alike, with continuing numbers in both bytes.
func TestScanOfMoreSectorsThanASegmentHas(t *testing.T) {
	var sectors, records [][]byte
	for len(sectors) < 700 {
		r := someBytes(len(sectors)*37%1500, dice(len(sectors)))
		l := pieces(5, len(sectors), len(r)/240, 1)
		if len(r) < 240 {
			l = [][]byte{one(1, 5, len(sectors), r)}
		} else {
			r = bytes.Join(piecesOf(l), nil)
		}
		sectors, records = append(sectors, l...), append(records, r)
	}
	scans(t, 5, sectors, records, len(sectors))
	for _, n := range []int{31, 32, 33, 64, 255, 256, 257, 511, 512, 513} {
		if got := scansAsTheChapter(t, 5, sectors[:n]); got < n-8 {
			t.Errorf("of %d sectors %d are taken", n, got)
		}
		// The number counts in its higher byte too.
		other := slices.Clone(sectors)
		other[n] = slices.Clone(sectors[n])
		other[n][9] ^= 1
		other[n] = sum(other[n])
		if got := scansAsTheChapter(t, 5, other); got > n {
			t.Errorf("sector %d is of another place, %d are taken", n, got)
		}
	}
}

// piecesOf are what sectors hold.
func piecesOf(sectors [][]byte) [][]byte {
	var l [][]byte
	for _, s := range sectors {
		l = append(l, s[12:12+int(s[10])])
	}
	return l
}

// Two bytes hold no number beyond 65535: no sector has the form there.
func TestScanBeyondEveryNumber(t *testing.T) {
	var sectors [][]byte
	for i := range 1<<16 + 3 {
		sectors = append(sectors, one(1, 1, i, nil))
	}
	if records, n := frame.Scan(1, sectors); n != 1<<16 || len(records) != 1<<16 {
		t.Errorf("%d records in %d sectors", len(records), n)
	}
	if records, n := frame.Scan(1, sectors[:1<<16]); n != 1<<16 || len(records) != 1<<16 {
		t.Errorf("%d records in %d sectors", len(records), n)
	}
	sectors[1<<16-1] = one(2, 1, 1<<16-1, make([]byte, 240))
	sectors[1<<16] = one(4, 1, 1<<16, make([]byte, 240))
	if records, n := frame.Scan(1, sectors); n != 1<<16-1 || len(records) != 1<<16-1 {
		t.Errorf("%d records in %d sectors", len(records), n)
	}
}

// Sectors of any bytes have an answer.
func TestScanOfAnyBytes(t *testing.T) {
	d := dice(5)
	for range 20000 {
		var sectors [][]byte
		for range d.below(4) {
			s := d.bytes(256)
			if d.below(10) == 0 {
				s = d.bytes(d.below(600))
			}
			for i, c := range []byte{'B', 'L', byte(1 + d.below(5)), 0, 1, 0, 0, 0, byte(len(sectors)), 0, byte(d.below(256)), byte(d.below(2))} {
				if i < len(s) && d.below(40) != 0 {
					s[i] = c
				}
			}
			if len(s) == 256 && d.below(2) == 0 {
				s = sum(s)
			}
			sectors = append(sectors, s)
		}
		scansAsTheChapter(t, 1, sectors)
	}
}
