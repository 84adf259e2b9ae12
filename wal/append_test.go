package wal_test

import (
	"bytes"
	"fmt"
	"slices"
	"testing"

	"barograph/api"
	"barograph/extent"
)

// filled is a log whose open segment has so many sectors in use, by records of one sector.
func filled(t *testing.T, sectors, used int) *pair {
	t.Helper()
	x := newLog(t, sectors)
	for i := range used {
		x.appends([]byte{byte(i)})
	}
	must(t, x.sync())
	return x
}

// A record fits if its sectors are no more than those that are left.
func TestAppendThatFitsAndThatDoesNot(t *testing.T) {
	for used := range 33 {
		for _, c := range sizes {
			x := filled(t, 100, used)
			was := x.real.d.Counts()
			record := some(c.size, 4)
			x.appends(record)
			got := x.real.d.Counts()
			what := fmt.Sprintf("%d bytes behind %d sectors", c.size, used)
			if x.w.Records() != used+1 {
				t.Errorf("%s: %d records", what, x.w.Records())
			}
			if used+c.sectors <= 32 {
				if got != (api.Counts{Reads: was.Reads, Writes: was.Writes + c.sectors, Flushes: was.Flushes}) || x.w.Segments() != 1 {
					t.Errorf("%s: %+v behind %+v, %d segments", what, got, was, x.w.Segments())
				}
				continue
			}
			// The list, the log, the directory, a flush, the slot, a flush, the record.
			if got != (api.Counts{Reads: was.Reads, Writes: was.Writes + 1 + 32 + 1 + 1 + c.sectors, Flushes: was.Flushes + 2}) || x.w.Segments() != 2 {
				t.Errorf("%s: %+v behind %+v, %d segments", what, got, was, x.w.Segments())
			}
			if got, want := x.real.d.Image()[2*256:][:12], listOf(closed(1, byte(used)), opened(2)); !bytes.Equal(got, want) {
				t.Errorf("%s: sector 2 has %x", what, got)
			}
			x.filesAre(what, list(2), log(1), log(2))
			x.listIs(what, closed(1, byte(used)), opened(2))
			x.sectorsAre(what, 2, framed(2, 0, record)...)
		}
	}
}

// Segments in a row, each with what fits into it.
func TestAppendOfManySegments(t *testing.T) {
	x := newLog(t, 1000)
	var want [][]byte
	var is []entry
	for i := range 20 {
		r := some(5000, dice(i))
		x.appends(r, nil)
		want = append(want, r, nil)
		is = append(is, closed(uint64(i+1), 22))
		x.listIs("in a row", append(is[:i:i], opened(uint64(i+1)))...)
		if x.w.Segments() != i+1 || x.w.Records() != 2*i+2 {
			t.Errorf("%d segments, %d records", x.w.Segments(), x.w.Records())
		}
	}
	x.found("in a row", want...)
	x.listIs("in a row", append(is, opened(21))...)
}

// What comes first of the errors: power, then the length, then room.
func TestOrderOfErrorsOfAppend(t *testing.T) {
	long := make([]byte, 7681)
	x := newLog(t, 100)
	was := x.real.d.Counts()
	for range 2 {
		for _, n := range []int{7681, 7682, 10000, 1 << 20} {
			if e := x.append(make([]byte, n)); e != api.ErrFrameLong {
				t.Errorf("%d bytes: %v", n, e)
			}
		}
	}
	if x.real.d.Counts() != was || x.w.Records() != 0 || x.w.Segments() != 1 {
		t.Error("a record that is too long changes something")
	}
	x.appends(nil)
	x.sectorsAre("behind long ones", 1, framed(1, 0, nil)...)

	// Too long, and no room: it is too long.
	x = newPair(t, 100)
	x.logsOf(closed(1, 3))
	x.leave(33)
	x.open()
	if e := x.append(long); e != api.ErrFrameLong {
		t.Error(e)
	}
	if e := x.append(nil); e != api.ErrFull {
		t.Error(e)
	}
	// Too long, and no room for another segment.
	x = filled(t, 100, 32)
	x.leave(33)
	if e := x.append(long); e != api.ErrFrameLong {
		t.Error(e)
	}
	if e := x.append(nil); e != api.ErrFull {
		t.Error(e)
	}
	// A log without room performs no operation, so it has not seen that the power is gone, till Sync does; Sync's result is the store's alone.
	x = newPair(t, 100)
	x.logsOf(closed(1, 3))
	x.leave(33)
	x.open()
	x.trip(0)
	if e := x.append(nil); e != api.ErrFull || x.real.d.Dark() {
		t.Error(e)
	}
	if e := x.sync(); e != api.ErrDark {
		t.Error(e)
	}
}

// refuses appends a record that finds no room in a new segment: nothing has changed.
func (x *pair) refuses(what string, want api.Errno, record []byte) {
	x.t.Helper()
	records, segments, files := x.w.Records(), x.w.Segments(), x.real.s.Files()
	if e := x.append(record); e != want {
		x.t.Errorf("%s: %v, want %v", what, e, want)
	}
	if x.w.Records() != records || x.w.Segments() != segments || !slices.Equal(x.real.s.Files(), files) {
		x.t.Errorf("%s: %d records, %d segments, files %+v", what, x.w.Records(), x.w.Segments(), x.real.s.Files())
	}
}

// Each call by which a segment is begun may return an error: what was staged is dropped, and nothing has changed.
func TestAppendWithAnErrorOfEachCall(t *testing.T) {
	empty := func(name string) func(s *extent.Store) api.Errno {
		return func(s *extent.Store) api.Errno { return s.Put(name, nil) }
	}
	for what, c := range map[string]struct {
		lay  func(x *pair)
		want api.Errno
	}{
		"wal is removed": {func(x *pair) { x.remove("wal") }, api.ErrExtentNoFile},
		"no room for the list": {func(x *pair) {
			x.both(func(s *extent.Store) api.Errno { return s.Put("b", make([]byte, 256*s.Free())) })
		}, api.ErrFull},
		"no room for the log":       {func(x *pair) { x.leave(32) }, api.ErrFull},
		"no room for the directory": {func(x *pair) { x.leave(33) }, api.ErrFull},
		"the new log is there":      {func(x *pair) { must(t, x.both(empty("wal.2")), x.commit()) }, api.ErrExtentThere},
		"the new log is staged":     {func(x *pair) { must(t, x.both(empty("wal.2"))) }, api.ErrExtentThere},
		"many files":                {func(x *pair) { x.many(254) }, api.ErrFull},
	} {
		for _, used := range []int{1, 30, 32} {
			x := filled(t, 200, used)
			c.lay(x)
			files := x.real.s.Files()
			must(t, x.both(func(s *extent.Store) api.Errno { s.Put("other", nil); return api.OK }))
			x.refuses(what, c.want, make([]byte, 7680))
			y := x.fork()
			if !slices.Equal(x.real.s.Files(), files) || !slices.Equal(y.real.s.Files(), files) {
				t.Errorf("%s: Files are %+v", what, x.real.s.Files())
			}
			x.listIs(what, opened(1))
			// What others have staged is dropped too: behind a commit nothing is new.
			if x.commit() == api.OK && !slices.Equal(x.real.s.Files(), files) {
				t.Errorf("%s: behind a Commit, Files are %+v", what, x.real.s.Files())
			}
			// A record that fits is taken as before.
			if used < 32 {
				x.appends(some(241, 1))
				x.sectorsAre(what, 1, append(firsts(used), framed(1, used, some(241, 1))...)...)
			}
		}
	}
}

// firsts are the sectors of records of one byte, as filled has them.
func firsts(n int) [][]byte {
	var l [][]byte
	for i := range n {
		l = append(l, framed(1, i, []byte{byte(i)})...)
	}
	return l
}

// With the generation ahead of the last one, Open commits, and no Append can.
func TestAppendOfTheLastGeneration(t *testing.T) {
	x := newLog(t, 200)
	x.generation(1<<62 - 1)
	x.found("the last commit")
	x.appends(letters("ab")...)
	for range 2 {
		x.refuses("the last generation", api.ErrFull, make([]byte, 7680)) // and not ErrExtentMany
	}
	x.appends(letters("c")...)
	x.listIs("the last generation", opened(2))
	x.sectorsAre("the last generation", 2, packed(2, letters("abc")...)...)
}

// There is no next number: ErrFull, nothing is written, and what others have staged is dropped.
func TestAppendBehindTheGreatestNumber(t *testing.T) {
	x := newPair(t, 200)
	x.put("wal", listOf(closed(1<<31-1, 0)))
	x.found("the last number but one")
	x.listIs("the last number but one", closed(1<<31-1, 0), opened(1<<31))
	x.appends(some(7200, 1))
	for range 2 {
		must(t, x.both(func(s *extent.Store) api.Errno { return s.Put("other", nil) }))
		was, free := x.real.d.Counts(), x.free()
		x.refuses("the greatest number", api.ErrFull, make([]byte, 481))
		if x.real.d.Counts() != was || x.free() != free {
			t.Errorf("%+v behind %+v", x.real.d.Counts(), was)
		}
		must(t, x.commit())
		x.filesAre("the greatest number", list(2), log(1<<31))
	}
	x.appends(some(480, 2))
	x.sectorsAre("the greatest number", 1<<31, packed(1<<31, some(7200, 1), some(480, 2))...)
	x.refuses("the greatest number", api.ErrFull, nil)
	x.noRoom("the greatest number", []entry{closed(1<<31-1, 0), opened(1 << 31)}, some(7200, 1), some(480, 2))
}

// Room that comes is taken: an Append that found none has left nothing behind.
func TestAppendWithRoomAgain(t *testing.T) {
	for free := 1; free < 37; free++ {
		x := filled(t, 200, 30)
		x.leave(free)
		if free >= 34 {
			x.appends(some(481, 1))
			continue
		}
		was := x.free()
		for range 3 {
			x.refuses("without room", api.ErrFull, some(481, 1))
			if x.free() != was {
				t.Fatalf("%d are free, of %d", x.free(), was)
			}
		}
		x.appends(some(240, 1))
		must(t, x.remove("filler"), x.commit())
		x.appends(some(481, 2), []byte("z"))
		x.listIs("with room again", closed(1, 31), opened(2))
		x.sectorsAre("with room again", 2, packed(2, some(481, 2), []byte("z"))...)
		x.found("with room again", append(recordsOf(30), some(240, 1), some(481, 2), []byte("z"))...)
	}
}

// recordsOf are those that filled appends.
func recordsOf(n int) [][]byte {
	var l [][]byte
	for i := range n {
		l = append(l, []byte{byte(i)})
	}
	return l
}

// A changed store below: errors of Set other than ErrDark are told, and nothing counts.
func TestAppendToAMissingLog(t *testing.T) {
	x := newLog(t, 200)
	x.appends([]byte("a"))
	must(t, x.remove("wal.1"), x.commit())
	x.refuses("no log", api.ErrExtentNoFile, []byte("b"))
	must(t, x.both(func(s *extent.Store) api.Errno { return s.Put("wal.1", nil) }), x.commit())
	x.refuses("data", api.ErrExtentKind, []byte("b"))
	must(t, x.remove("wal.1"), x.commit())
	x.lay("wal.1", 2)
	x.refuses("a short log", api.ErrRange, some(241, 1))
	x.appends([]byte("b"))
}

// What others have staged when a segment is begun is committed along.
func TestAppendCommitsWhatIsStaged(t *testing.T) {
	x := filled(t, 200, 32)
	must(t, x.both(func(s *extent.Store) api.Errno { return s.Put("other", []byte("o")) }))
	x.appends(nil)
	x.filesAre("staged", api.File{Name: "other", Size: 1}, list(2), log(1), log(2))
	// Where no segment is begun, nothing is committed.
	must(t, x.both(func(s *extent.Store) api.Errno { return s.Put("more", nil) }))
	x.appends(nil)
	x.filesAre("staged", api.File{Name: "other", Size: 1}, list(2), log(1), log(2))
}

// The power may be gone at each operation of Append: ErrDark, and so for all later calls, ahead of all other checks.
func TestAppendInTheDark(t *testing.T) {
	for _, c := range []struct{ used, size, operations int }{
		{0, 0, 1}, {0, 7680, 32}, {5, 241, 2}, {31, 240, 1}, {31, 241, 1 + 32 + 1 + 1 + 1 + 1 + 2}, {32, 0, 38}, {1, 7680, 37 + 32},
	} {
		start := filled(t, 100, c.used)
		for n := 0; ; n++ {
			x := filled(t, 100, c.used)
			files := x.real.s.Files()
			x.trip(n)
			record := some(c.size, 7)
			e := x.append(record)
			if e == api.OK {
				if n != c.operations {
					t.Errorf("%+v: %d operations", c, n)
				}
				break
			}
			if e != api.ErrDark {
				t.Errorf("%+v, %d operations: %v", c, n, e)
			}
			hasBegun := c.operations > 32 && c.used > 0 && n >= 37
			if x.w.Records() != c.used || (x.w.Segments() == 2) != hasBegun || slices.Equal(x.real.s.Files(), files) == hasBegun {
				t.Errorf("%+v, %d operations: %d records, %d segments", c, n, x.w.Records(), x.w.Segments())
			}
			for range 2 {
				for _, n := range []int{0, 1, 7680, 7681, 1 << 16} {
					if e := x.append(make([]byte, n)); e != api.ErrDark {
						t.Errorf("behind it, Append of %d bytes: %v", n, e)
					}
				}
				if e := x.sync(); e != api.ErrDark {
					t.Errorf("behind it, Sync: %v", e)
				}
			}
			// With the power back, the store and its log are dark as before.
			w, p := x.w, x.p
			x.real.d.Cut()
			x.spoken.d.Cut()
			if e := w.Append(make([]byte, 7681)); e != api.ErrDark || p.append(nil) != api.ErrDark {
				t.Errorf("behind a cut: %v", e)
			}
			if e := w.Sync(); e != api.ErrDark || w.Records() != c.used {
				t.Errorf("behind a cut, Sync: %v", e)
			}
			x.find()
			x.found("behind a cut", recordsOf(c.used)...)
		}
		if start.w.Records() != c.used {
			t.Fatal("the logs hang together")
		}
	}
}

// Sync is a flush of the store, whether or not there is something to flush, and also for a log without room.
func TestSync(t *testing.T) {
	x := newLog(t, 100)
	for i := range 3 {
		was := x.real.d.Counts()
		must(t, x.sync())
		if got := x.real.d.Counts(); got != (api.Counts{Reads: was.Reads, Writes: was.Writes, Flushes: was.Flushes + 1}) {
			t.Errorf("%+v behind %+v", got, was)
		}
		if x.w.Records() != i {
			t.Errorf("%d records", x.w.Records())
		}
		x.appends([]byte{byte(i)})
	}
	x.trip(0)
	for range 2 {
		if e := x.sync(); e != api.ErrDark || x.w.Records() != 3 || x.w.Segments() != 1 {
			t.Error(e)
		}
	}
	if e := x.append(nil); e != api.ErrDark {
		t.Errorf("Append behind it: %v", e)
	}
	x.cut()
	x.found("two of three", recordsOf(2)...)
}

// Two logs, each on a store of its own, have nothing in common.
func TestTwoLogs(t *testing.T) {
	x, y := newLog(t, 100), newLog(t, 100)
	x.appends([]byte("a"), []byte("b"))
	y.appends([]byte("c"))
	if x.w.Records() != 2 || y.w.Records() != 1 {
		t.Errorf("%d, %d", x.w.Records(), y.w.Records())
	}
	x.trip(0)
	x.append(nil)
	y.appends([]byte("d"))
	y.found("the other one", letters("cd")...)
}
