package frame_test

import (
	"slices"
	"testing"

	"barograph/api"
	"barograph/frame"
)

// size is that of a drawn record: any, a short one, or one at the edge of its last piece.
func (d *dice) size() int {
	switch d.below(4) {
	case 0:
		return d.below(7681)
	case 1:
		return d.below(32)*240 + d.below(3)
	case 2:
		return max(0, d.below(33)*240-d.below(3))
	}
	return d.below(300)
}

// records are drawn ones, as many as have room in a segment, and where each of them begins.
func (d *dice) records() (records [][]byte, at []int) {
	for used := 0; d.below(20) > 0; {
		size := d.size()
		if d.below(2) == 0 {
			size = d.below(500)
		}
		n := max(1, (size+239)/240)
		if used+n > 32 {
			break
		}
		records, at = append(records, d.bytes(size)), append(at, used)
		used += n
	}
	return records, at
}

func TestDrawnRecordsAsTheChapter(t *testing.T) {
	d := dice(7)
	told := map[api.Errno]int{}
	for range 20000 {
		size := d.size()
		if d.below(10) == 0 {
			size = 7681 + d.below(1000)
		}
		told[splitsAsTheChapter(t, uint32(d.number()), d.below(40)-3, d.bytes(size))]++
		if t.Failed() {
			return
		}
	}
	for _, errno := range []api.Errno{api.OK, api.ErrArg, api.ErrFrameLong} {
		if told[errno] < 1000 {
			t.Errorf("%v holds of %d drawn records only", errno, told[errno])
		}
	}
}

// Scan of the concatenated results of Split returns the records; without one sector, or with one changed, it returns the records before it.
func TestScanReturnsWhatWasSplit(t *testing.T) {
	d := dice(11)
	changed := 0
	for range 3000 {
		segment := uint32(d.number())
		records, at := d.records()
		var sectors [][]byte
		for i, r := range records {
			sectors = append(sectors, split(t, segment, at[i], r)...)
		}
		scans(t, segment, sectors, records, len(sectors))
		scans(t, segment^1<<d.below(32), sectors, nil, 0)
		for range min(8, len(sectors)) {
			place := d.below(len(sectors))
			want, occupied := before(records, place)
			scans(t, segment, slices.Delete(slices.Clone(sectors), place, place+1), want, occupied)
			other := copied(sectors)
			for range 1 + d.below(3) {
				other[place][d.below(256)] = byte(d.number())
			}
			if !slices.Equal(other[place], sectors[place]) {
				scans(t, segment, other, want, occupied)
				changed++
			}
		}
		if t.Failed() {
			return
		}
	}
	if changed < 10000 {
		t.Errorf("only %d sectors are changed", changed)
	}
}

// Each bit of drawn records' sectors counts: with one changed, Scan returns the records before it.
func TestScanWithABitOfDrawnRecordsChanged(t *testing.T) {
	d := dice(13)
	for range 60 {
		segment := uint32(d.number())
		records, _ := d.records()
		sectors := laid(t, segment, records...)
		for place := range sectors {
			want, occupied := before(records, place)
			for range 20 {
				other := slices.Clone(sectors)
				other[place] = slices.Clone(sectors[place])
				other[place][d.below(256)] ^= 1 << d.below(8)
				scans(t, segment, other, want, occupied)
			}
		}
		if t.Failed() {
			return
		}
	}
}

// kind is a drawn one that tends to follow the one before it.
func (d *dice) kind(before byte) byte {
	if d.below(12) == 0 {
		return byte(d.below(6))
	}
	if before == 2 || before == 3 {
		return byte(3 + d.below(2))
	}
	return byte(1 + d.below(2))
}

// Sectors of drawn fields, each with the right checksum: nearly right, and often so.
func TestDrawnSectorsAsTheChapter(t *testing.T) {
	d := dice(17)
	told := map[string]int{}
	for range 20000 {
		var sectors [][]byte
		var kind byte
		for i := range d.below(45) {
			kind = d.kind(kind)
			size := 240
			if kind == 1 || kind == 4 {
				size = d.below(241)
			}
			if d.below(60) == 0 {
				size = d.below(241)
			}
			s := one(kind, 5, i, d.bytes(size))
			if d.below(100) == 0 {
				s[d.below(252)] ^= byte(d.number())
				s = sum(s)
			}
			if d.below(200) == 0 {
				s = s[:d.below(257)]
			}
			sectors = append(sectors, s)
		}
		switch got := scansAsTheChapter(t, 5, sectors); got {
		case 0:
			told["none"]++
		case len(sectors):
			told["all"]++
		default:
			told["some"]++
		}
		if t.Failed() {
			return
		}
	}
	for _, how := range []string{"none", "some", "all"} {
		if told[how] < 1000 {
			t.Errorf("of %d drawn lists %s are taken", told[how], how)
		}
	}
}

// What Split says hangs on the bytes alone: the same again at each call, and each sector on its own piece and numbers.
func TestASectorHangsOnItsOwnPiece(t *testing.T) {
	d := dice(19)
	for range 2000 {
		n := 2 + d.below(31)
		at, segment := d.below(33-n), uint32(d.number())
		record := d.bytes(240 * n)
		sectors := split(t, segment, at, record)
		place := d.below(len(record))
		record[place] ^= 1 << d.below(8)
		for i, s := range split(t, segment, at, record) {
			if slices.Equal(s, sectors[i]) != (i != place/240) {
				t.Fatalf("byte %d is changed, and sector %d of %d", place, i, n)
			}
		}
	}
}

// What Scan says does not hang on what comes behind the first wrong sector, nor on the records ahead of one that is wrong.
func TestScanStopsForGood(t *testing.T) {
	d := dice(23)
	for range 3000 {
		records, _ := d.records()
		sectors := laid(t, 6, records...)
		if len(sectors) == 0 {
			continue
		}
		place := d.below(len(sectors))
		want, occupied := before(records, place)
		sectors[place] = make([]byte, 256)
		scans(t, 6, sectors, want, occupied)
		for i := place + 1; i < len(sectors); i++ {
			sectors[i] = one(1, 6, i, d.bytes(d.below(241)))
		}
		scans(t, 6, sectors, want, occupied)
		for i := range occupied {
			sectors[i] = one(1, 6, i, nil)
		}
		if _, n := frame.Scan(6, sectors); n != occupied {
			t.Errorf("%d sectors, want %d", n, occupied)
		}
	}
}
