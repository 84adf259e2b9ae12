package wal_test

import (
	"bytes"
	"encoding/hex"
	"slices"
	"strings"
	"testing"

	"barograph/api"
	"barograph/disk"
	"barograph/extent"
	"barograph/wal"
)

// The first example, without any helper.
func TestFirstExample(t *testing.T) {
	d, _ := disk.New(100)
	s, _ := extent.Format(d)
	w, e := wal.Begin(s)
	if w == nil || e != api.OK || s.Commit() != api.OK {
		t.Fatal(e)
	}
	if l := s.Files(); len(l) != 2 || l[0] != (api.File{Name: "wal", Size: 7, Runs: 1}) || l[1].Name != "wal.1" || !l[1].Log || l[1].Size != 32 {
		t.Errorf("behind Begin: %+v", l)
	}
	was := d.Counts()
	if w.Append([]byte("ab")) != api.OK || w.Append([]byte("c")) != api.OK || d.Counts() != (api.Counts{Reads: was.Reads, Writes: was.Writes + 2, Flushes: was.Flushes}) {
		t.Errorf("two sectors are %+v, behind %+v", d.Counts(), was)
	}
	v, l, e := wal.Open(s)
	if e != api.OK || len(l) != 2 || string(l[0]) != "ab" || string(l[1]) != "c" || v.Segments() != 2 || v.Records() != 2 {
		t.Errorf("Open: %q, %v", l, e)
	}
	names := ""
	for _, f := range s.Files() {
		names += f.Name + " "
	}
	if names != "wal wal.1 wal.2 " {
		t.Errorf("behind Open: %s", names)
	}
}

func TestSecondExample(t *testing.T) {
	for _, isSynced := range []bool{false, true} {
		x := newLog(t, 100)
		x.appends([]byte("ab"), []byte("c"))
		if isSynced {
			must(t, x.sync())
		}
		x.cut()
		l, e := x.open()
		must(t, e)
		if isSynced {
			if len(l) != 2 || string(l[0]) != "ab" || string(l[1]) != "c" {
				t.Errorf("with a Sync: %q", l)
			}
			continue
		}
		if len(l) != 0 || x.w.Records() != 0 || x.w.Segments() != 1 {
			t.Errorf("without: %q, %d, %d", l, x.w.Records(), x.w.Segments())
		}
		x.filesAre("without", list(1), log(2))
	}
}

func TestThirdExample(t *testing.T) {
	x := newLog(t, 100)
	if e := x.append(make([]byte, 7681)); e != api.ErrFrameLong || x.w.Segments() != 1 {
		t.Error(e)
	}
	x.appends([]byte("ab"), make([]byte, 7680))
	if x.w.Segments() != 2 || x.w.Records() != 2 {
		t.Errorf("%d segments", x.w.Segments())
	}
	x.filesAre("of 7680 bytes", list(2), log(1), log(2))
}

// unhex takes bytes as they are written down, with spaces between.
func unhex(t *testing.T, s string) []byte {
	t.Helper()
	b, err := hex.DecodeString(strings.ReplaceAll(s, " ", ""))
	if err != nil {
		t.Fatal(err)
	}
	return b
}

// The bytes of the file wal, each written down.
func TestBytesOfTheList(t *testing.T) {
	is := func(x *pair, want string) {
		t.Helper()
		b, e := x.real.s.Get("wal")
		x.spoken.s.Get("wal")
		if e != api.OK || !bytes.Equal(b, unhex(t, want)) {
			t.Errorf("%x, want %s", b, want)
		}
	}
	x := newLog(t, 200)
	is(x, "0100 01000000ff")
	x.appends(some(241, 1), some(1, 2))
	is(x, "0100 01000000ff")
	x.open()
	is(x, "0200 0100000003 02000000ff")
	x.appends(some(7680, 1))
	is(x, "0200 0100000003 02000000ff")
	x.appends(nil)
	is(x, "0300 0100000003 0200000020 03000000ff")

	for _, c := range []struct {
		last      uint64
		a, b, end string
	}{
		{0xff, "00010000", "01010000", "0200 0001000001 01010000ff"},
		{0xfffe, "ffff0000", "00000100", "0200 ffff000001 00000100ff"},
		{0xfffffe, "ffffff00", "00000001", "0200 ffffff0001 00000001ff"},
		{0x76543210, "11325476", "12325476", "0200 1132547601 12325476ff"},
		{1<<31 - 2, "ffffff7f", "00000080", "0200 ffffff7f01 00000080ff"},
	} {
		x := newPair(t, 200)
		x.put("wal", listOf(closed(c.last, 0)))
		must(t, x.begin(), x.commit())
		is(x, "0100"+c.a+"ff")
		x.filesAre("behind Begin", list(1), log(c.last+1))
		x.open()
		is(x, "0100"+c.b+"ff")
		x.filesAre("behind Open", list(1), log(c.last+2))
		x = newPair(t, 200)
		x.put("wal", listOf(closed(c.last, 0)))
		must(t, x.begin(), x.commit())
		x.appends([]byte("a"))
		x.open()
		is(x, c.end)
	}
}

// Sizes of records, and how many sectors they take.
var sizes = []struct{ size, sectors int }{
	{0, 1}, {1, 1}, {2, 1}, {239, 1}, {240, 1}, {241, 2}, {479, 2}, {480, 2}, {481, 3}, {720, 3}, {721, 4}, {7439, 31}, {7440, 31}, {7441, 32}, {7679, 32}, {7680, 32},
}

// A record's sectors are written in their order, behind those of the records before it, and nothing else is.
func TestSectorsOfRecords(t *testing.T) {
	for _, c := range sizes {
		x := newLog(t, 200)
		record := some(c.size, 5)
		was := x.real.d.Counts()
		x.appends(record)
		if got := x.real.d.Counts(); got != (api.Counts{Reads: was.Reads, Writes: was.Writes + c.sectors, Flushes: was.Flushes}) {
			t.Errorf("%d bytes: %+v behind %+v", c.size, got, was)
		}
		if l := x.real.d.Pending(); !slices.IsSorted(l) || len(l) != c.sectors {
			t.Errorf("%d bytes: %v is written", c.size, l)
		}
		x.sectorsAre("one record", 1, framed(1, 0, record)...)
	}
	x := newLog(t, 200)
	var want [][]byte
	for _, size := range []int{3, 500, 0, 241, 240, 700, 1} {
		want = append(want, framed(1, len(want), some(size, 9))...)
		x.appends(some(size, 9))
		x.sectorsAre("several", 1, want...)
	}
	if x.w.Records() != 7 || x.w.Segments() != 1 {
		t.Errorf("%d records, %d segments", x.w.Records(), x.w.Segments())
	}
}

// The sectors of a record, each byte written down (the checksum by what it is defined as).
func TestBytesOfASector(t *testing.T) {
	x := newLog(t, 100)
	x.appends([]byte("ab"), []byte("c"))
	x.open()
	x.appends([]byte("d"))
	for _, c := range []struct {
		name, head string
		at         int
	}{
		{"wal.1", "424c0100 01000000 0000 0200 6162", 0},
		{"wal.1", "424c0100 01000000 0100 0100 63", 1},
		{"wal.2", "424c0100 02000000 0000 0100 64", 0},
	} {
		b, e := x.real.s.Sector(c.name, c.at)
		want := make([]byte, 252)
		copy(want, unhex(t, c.head))
		if e != api.OK || !bytes.Equal(b[:252], want) {
			t.Errorf("sector %d of %s: %x", c.at, c.name, b)
		}
	}
}

// Records come out in the order in which they were appended, from all segments.
func TestRecordsComeOutInOrder(t *testing.T) {
	x := newLog(t, 2000)
	var want [][]byte
	for round := range 6 {
		for i, c := range sizes {
			r := some(c.size, dice(100*round+i))
			x.appends(r)
			want = append(want, r)
			if x.w.Records() != len(want) {
				t.Fatalf("%d records, want %d", x.w.Records(), len(want))
			}
		}
		l, e := x.open()
		must(t, e)
		if !sameRecords(l, want) || x.w.Records() != len(want) {
			t.Fatalf("%d records, want %d", len(l), len(want))
		}
	}
}

// Nothing but what was appended since is in a log that Begin began.
func TestBeginHasNoRecords(t *testing.T) {
	x := newLog(t, 300)
	for round := range uint64(5) {
		if x.w.Records() != 0 || x.w.Segments() != 1 {
			t.Errorf("%d records, %d segments", x.w.Records(), x.w.Segments())
		}
		x.filesAre("behind Begin", list(1), log(round*3+1))
		x.listIs("behind Begin", opened(round*3+1))
		x.sectorsAre("behind Begin", round*3+1)
		x.appends([]byte("a"), some(7680, 1))
		x.filesAre("behind Append", list(2), log(round*3+1), log(round*3+2))
		l, e := x.open()
		must(t, e)
		if !sameRecords(l, [][]byte{[]byte("a"), some(7680, 1)}) {
			t.Errorf("%d records", len(l))
		}
		must(t, x.begin())
		x.filesAre("ahead of Commit", list(3), log(round*3+1), log(round*3+2), log(round*3+3))
		must(t, x.commit())
	}
}
