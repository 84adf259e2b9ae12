package wal_test

import (
	"bytes"
	"slices"
	"strconv"
	"sync"
	"testing"

	"barograph/api"
	"barograph/disk"
	"barograph/extent"
	"barograph/wal"
)

func overwrite(b []byte) {
	b = b[:cap(b)]
	for i := range b {
		b[i] = 0xee
	}
}

// A record that is handed in stays as it is, with what lies behind it in the same memory; it is neither read beyond its end nor kept.
func TestRecordsThatAreHandedInStay(t *testing.T) {
	x := newLog(t, 500)
	var want [][]byte
	for i, c := range append(sizes, struct{ size, sectors int }{7681, 0}) {
		record := some(c.size, dice(i))
		memory := append(slices.Clone(record), "behind"...)
		e := x.w.Append(memory[:c.size])
		if want := x.p.append(record); e != want {
			t.Fatalf("%d bytes: %v, want %v", c.size, e, want)
		}
		x.same("Append")
		if !bytes.Equal(memory, append(slices.Clone(record), "behind"...)) {
			t.Errorf("Append has changed %d bytes", c.size)
		}
		overwrite(memory)
		if e == api.OK {
			want = append(want, record)
		}
	}
	x.found("all of them", want...)
}

// What Open answers is its owner's: it hangs neither on the log, nor on the store, nor on another answer, and no record on another one.
func TestRecordsAreTheirOwners(t *testing.T) {
	x := newLog(t, 500)
	var want [][]byte
	for i, c := range sizes[:13] {
		x.appends(some(c.size, dice(i)))
		want = append(want, some(c.size, dice(i)))
	}
	must(t, x.sync())
	first, _ := x.open()
	second, _ := x.open()
	for i := range first {
		l := slices.Clone(want)
		l[i] = bytes.Repeat([]byte{0xee}, len(want[i]))
		overwrite(first[i])
		_ = append(first[i], make([]byte, 3000)...)
		if !sameRecords(first, l) {
			t.Errorf("record %d shares memory with another one", i)
		}
		copy(first[i], want[i])
		_ = append(second[i], 0xee)
	}
	if !sameRecords(second, want) {
		t.Error("two answers share memory")
	}
	for _, l := range [][][]byte{first, second} {
		l = l[:cap(l)]
		for i := range l {
			overwrite(l[i])
			l[i] = []byte("scribbled")
		}
	}
	x.same("scribbled")
	x.found("behind that", want...)
	x.appends([]byte("z"))
	x.found("behind that", append(want, []byte("z"))...)
}

// What Begin and Open read and write of the store is not theirs to keep: a change of the list in the store is seen by the next Open.
func TestTheListIsReadAnew(t *testing.T) {
	x := newLog(t, 300)
	x.appends(letters("abc")...)
	x.found("three", letters("abc")...)
	must(t, x.remove("wal"))
	x.put("wal", listOf(closed(1, 2)))
	x.found("two", letters("ab")...)
}

// Logs on disks of their own hang on nothing that they share, whatever the others do meanwhile.
func TestLogsAtOneTime(t *testing.T) {
	var all sync.WaitGroup
	for n := range 8 {
		all.Go(func() {
			d, _ := disk.New(300)
			s, _ := extent.Format(d)
			w, _ := wal.Begin(s)
			s.Commit()
			var want [][]byte
			for i := range 60 {
				r := []byte(strconv.Itoa(n*1000 + i))
				w.Append(r)
				want = append(want, r)
				if i%20 == 10 {
					var l [][]byte
					w, l, _ = wal.Open(s)
					if w == nil || !sameRecords(l, want) {
						t.Errorf("log %d: %d records, want %d", n, len(l), len(want))
						return
					}
				}
			}
		})
	}
	all.Wait()
}
