package frame_test

import (
	"bytes"
	"slices"
	"sync"
	"testing"

	"barograph/api"
	"barograph/frame"
)

func overwrite(b []byte) {
	b = b[:cap(b)]
	for i := range b {
		b[i] = 0xee
	}
}

// roomy is a copy of bytes with others behind its end, in the same memory.
func roomy(b []byte) []byte { return append(slices.Clone(b), "behind"...)[:len(b)] }

func hasStayed(b, want []byte) bool {
	return bytes.Equal(b, want) && string(b[:len(b)+6][len(b):]) == "behind"
}

// scribble changes all that a list has, and all that there is room for.
func scribble(l [][]byte) {
	for _, b := range l {
		overwrite(b)
	}
	l = l[:cap(l)]
	for i := range l {
		l[i] = []byte("scribbled")
	}
}

func memorySizes() []int { return []int{0, 1, 239, 240, 241, 480, 481, 7679, 7680} }

// A record that is handed in stays as it is, and what lies behind it is neither changed nor read.
func TestRecordsThatAreHandedInStay(t *testing.T) {
	for _, size := range append(memorySizes(), 7681) {
		for _, at := range []int{0, 31, 32, -1} {
			want := someBytes(size, 1)
			record := roomy(want)
			splitsAsTheChapter(t, 3, at, record)
			if !hasStayed(record, want) {
				t.Errorf("Split has changed %d bytes", size)
			}
		}
	}
}

// What Split answers is its owner's: neither another answer nor the record hangs on it, and no sector on another one.
func TestSectorsAreTheirOwners(t *testing.T) {
	for _, size := range memorySizes() {
		record := someBytes(size, 1)
		want, _ := splitOf(3, 0, record)
		got := split(t, 3, 0, record)
		scribble(split(t, 3, 0, record))
		given := split(t, 3, 0, record)
		overwrite(record)
		if !same(got, want) || !same(given, want) {
			t.Errorf("what Split answers for %d bytes shares memory", size)
		}
		for i := range want {
			l := copied(want)
			sectors := split(t, 3, 0, someBytes(size, 1))
			overwrite(sectors[i])
			overwrite(l[i])
			if !same(sectors, l) {
				t.Errorf("sector %d of %d bytes shares memory with another one", i, size)
			}
		}
		if a, b := append(got, []byte("a")), append(given, []byte("b")); string(a[len(want)]) != "a" || string(b[len(want)]) != "b" {
			t.Errorf("two lists of sectors of %d bytes share memory", size)
		}
	}
}

// What is appended to a sector, or written where it has room, is in no other one.
func TestSectorsHaveNoRoomInTheNextOne(t *testing.T) {
	sectors := split(t, 3, 0, someBytes(7680, 1))
	want := copied(sectors)
	for i, s := range sectors {
		_ = append(s, 0xee)
		_ = append(s, make([]byte, 700)...)
		overwrite(s[len(s):])
		if !same(sectors, want) {
			t.Fatalf("sector %d has room in another one", i)
		}
	}
}

// Sectors that are handed in stay as they are, and so does what lies behind each of them and behind their list; none of that is read.
func TestSectorsThatAreHandedInStay(t *testing.T) {
	records := several()
	sectors := laid(t, 3, records...)
	for n := range len(sectors) + 1 {
		all := make([][]byte, len(sectors))
		for i, s := range sectors {
			all[i] = roomy(s)
		}
		want, occupied := before(records, n)
		scans(t, 3, all[:n], want, occupied)
		for i, s := range all {
			if !hasStayed(s, sectors[i]) {
				t.Errorf("Scan has changed sector %d", i)
			}
		}
	}
	// A sector that is cut short isn't made whole by what lies behind, nor by the next one.
	memory := bytes.Join(sectors, nil)
	for i := range sectors {
		var l [][]byte
		for j := range sectors {
			l = append(l, memory[256*j:256*j+256])
		}
		scans(t, 3, l, records, len(sectors))
		l[i] = l[i][:255]
		want, occupied := before(records, i)
		scans(t, 3, l, want, occupied)
		l[i] = l[i][:cap(l[i])]
		if len(l[i]) != 256 {
			scans(t, 3, l, want, occupied)
		}
	}
	if !bytes.Equal(memory, bytes.Join(sectors, nil)) {
		t.Error("Scan has changed sectors that lie one behind the other")
	}
}

// What Scan answers is its owner's: neither another answer nor the sectors hang on it, and no record on another one.
func TestRecordsAreTheirOwners(t *testing.T) {
	records := several()
	sectors := laid(t, 3, records...)
	got, _ := frame.Scan(3, sectors)
	second, _ := frame.Scan(3, sectors)
	scribble(second)
	scans(t, 3, sectors, records, len(sectors))
	third, _ := frame.Scan(3, sectors)
	for _, s := range sectors {
		overwrite(s)
	}
	if !same(got, records) || !same(third, records) {
		t.Error("what Scan answers shares memory")
	}
	for i := range records {
		want := copied(records)
		l, _ := frame.Scan(3, laid(t, 3, records...))
		overwrite(l[i])
		overwrite(want[i])
		if !same(l, want) {
			t.Errorf("record %d shares memory with another one", i)
		}
		_ = append(got[i], make([]byte, 9000)...)
		_ = append(got[i], 0xee)
		overwrite(got[i][len(got[i]):])
		if !same(got, records) {
			t.Errorf("what is appended to record %d goes into another one", i)
		}
	}
	if a, b := append(got, []byte("a")), append(third, []byte("b")); string(a[len(records)]) != "a" || string(b[len(records)]) != "b" {
		t.Error("two lists of records share memory")
	}
}

// Records that are changed, or appended to, change no sectors.
func TestSectorsDoNotHangOnRecords(t *testing.T) {
	records := several()
	want := laid(t, 3, records...)
	sectors := make([][]byte, len(want))
	for i, s := range want {
		sectors[i] = roomy(s)
	}
	got, _ := frame.Scan(3, sectors)
	for _, r := range got {
		_ = append(r, make([]byte, 300)...)
		overwrite(r)
	}
	scribble(got)
	for i, s := range sectors {
		if !hasStayed(s, want[i]) {
			t.Errorf("sector %d hangs on a record", i)
		}
	}
}

// With an error there is nothing else.
func TestNothingBesideAnError(t *testing.T) {
	for _, x := range []struct{ at, size int }{{0, 7681}, {-1, 1}, {32, 0}, {31, 241}} {
		if l, errno := frame.Split(1, x.at, make([]byte, x.size)); errno == api.OK || l != nil {
			t.Errorf("Split(1, %d, %d bytes) = %v, %v", x.at, x.size, l, errno)
		}
	}
}

// Nothing is kept: what a call says hangs on what it is given alone, whatever other calls are made at the same time.
func TestCallsAtTheSameTime(t *testing.T) {
	var wait sync.WaitGroup
	shared := someBytes(1000, 1)
	sharedSectors := laid(t, 1, shared)
	for i := range 8 {
		wait.Go(func() {
			record := someBytes(100+900*i, dice(i))
			want, _ := splitOf(uint32(i), 0, record)
			for range 100 {
				if got, errno := frame.Split(uint32(i), 0, record); errno != api.OK || !same(got, want) {
					t.Errorf("Split of %d bytes: %v", len(record), errno)
				}
				if got, n := frame.Scan(uint32(i), want); n != len(want) || !same(got, [][]byte{record}) {
					t.Errorf("Scan of %d bytes: %d sectors", len(record), n)
				}
				if got, errno := frame.Split(1, 0, shared); errno != api.OK || !same(got, sharedSectors) {
					t.Error("a record that all have")
				}
				if got, _ := frame.Scan(1, sharedSectors); !same(got, [][]byte{shared}) {
					t.Error("sectors that all have")
				}
			}
		})
	}
	wait.Wait()
}
