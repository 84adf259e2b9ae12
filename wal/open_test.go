package wal_test

import (
	"bytes"
	"fmt"
	"slices"
	"testing"

	"barograph/api"
	"barograph/extent"
)

// letters are records of one byte.
func letters(s string) [][]byte {
	var l [][]byte
	for _, c := range []byte(s) {
		l = append(l, []byte{c})
	}
	return l
}

// packed are the sectors of records, one behind another, from the first of a segment on.
func packed(segment uint64, records ...[]byte) [][]byte {
	var l [][]byte
	for _, r := range records {
		l = append(l, framed(segment, len(l), r)...)
	}
	return l
}

// refused opens what is no log: nothing but so many reads has happened.
func (x *pair) refused(what string, reads int) {
	x.t.Helper()
	was, files, free := x.real.d.Counts(), x.real.s.Files(), x.real.s.Free()
	if _, e := x.open(); e != api.ErrWalForm {
		x.t.Errorf("%s: %v", what, e)
	}
	if got := x.real.d.Counts(); got != (api.Counts{Reads: was.Reads + reads, Writes: was.Writes, Flushes: was.Flushes}) {
		x.t.Errorf("%s: %+v behind %+v", what, got, was)
	}
	if !slices.Equal(x.real.s.Files(), files) || x.real.s.Free() != free {
		x.t.Errorf("%s: the store has changed", what)
	}
}

// found opens a log with these records.
func (x *pair) found(what string, want ...[]byte) {
	x.t.Helper()
	l, e := x.open()
	if e != api.OK || !sameRecords(l, want) || x.w.Records() != len(want) {
		x.t.Errorf("%s: %.20x, %v; want %.20x", what, l, e, want)
	}
}

func TestOpenWithoutAList(t *testing.T) {
	x := newPair(t, 100)
	x.refused("nothing", 0)
	x.lay("wal.1", 32)
	x.refused("a segment's log", 0)
	x.lay("wal", 1, append(listOf(opened(1)), make([]byte, 249)...))
	x.refused("a log as a list", 0)
	// What is only staged is not there.
	x = newPair(t, 100)
	must(t, x.begin())
	x.refused("ahead of Commit", 0)
	must(t, x.commit())
	x.found("behind Commit")
}

func TestOpenOfAMalformedList(t *testing.T) {
	x := newPair(t, 300)
	x.lay("wal.1", 32)
	x.lay("wal.2", 32)
	x.lay("wal.3", 32)
	for _, b := range malformed() {
		x := x.fork()
		x.put("wal", b.data)
		x.refused(b.what, (len(b.data)+255)/256)
	}
	x.put("wal", append(listOf(opened(1)), make([]byte, 500)...))
	x.refused("a long one", 2)
}

func TestOpenOfAListWithWrongBytes(t *testing.T) {
	x := newPair(t, 300)
	data := listOf(closed(76, 0), opened(77))
	x.put("wal", data)
	x.lay("wal.77", 32)
	y := x.fork()
	y.spoil(data)
	y.refused("wrong bytes", 1)
	x.found("right bytes")
}

// A list of no segments is one: the first one has the number 1.
func TestOpenOfNoSegments(t *testing.T) {
	x := newPair(t, 100)
	x.put("wal", []byte{0, 0})
	x.found("no segments")
	x.listIs("no segments", opened(1))
	x.filesAre("no segments", list(1), log(1))
	if x.w.Segments() != 1 {
		t.Error(x.w.Segments())
	}
	x.appends([]byte("a"))
	x.found("a record", []byte("a"))
	x.listIs("a record", closed(1, 1), opened(2))
}

// What the list may be, with logs that fit, what comes out, and what the list is then.
func TestOpenOfLists(t *testing.T) {
	for _, c := range []struct {
		is      []entry
		records string // of one sector each, in the order of the segments
		next    []entry
	}{
		{[]entry{opened(1)}, "", []entry{opened(2)}},
		{[]entry{opened(1)}, "a", []entry{closed(1, 1), opened(2)}},
		{[]entry{opened(1)}, "abcdefghijklmnopqrstuvwxyz01234", []entry{closed(1, 31), opened(2)}},
		{[]entry{opened(1)}, "abcdefghijklmnopqrstuvwxyz012345", []entry{closed(1, 32), opened(2)}},
		{[]entry{opened(7)}, "ab", []entry{closed(7, 2), opened(8)}},
		{[]entry{closed(1, 1)}, "a", []entry{closed(1, 1), opened(2)}},
		{[]entry{closed(1, 0)}, "", []entry{closed(1, 0), opened(2)}},
		{[]entry{closed(1, 32)}, "abcdefghijklmnopqrstuvwxyz012345", []entry{closed(1, 32), opened(2)}},
		{[]entry{closed(1, 2), opened(2)}, "ab", []entry{closed(1, 2), opened(3)}},
		{[]entry{closed(1, 2), opened(2)}, "abc", []entry{closed(1, 2), closed(2, 1), opened(3)}},
		{[]entry{closed(1, 0), opened(9)}, "", []entry{closed(1, 0), opened(10)}},
		{[]entry{closed(1, 0), closed(2, 0), closed(9, 0)}, "", []entry{closed(1, 0), closed(2, 0), closed(9, 0), opened(10)}},
		{[]entry{closed(2, 1), closed(300, 2), closed(70000, 1)}, "abcd", []entry{closed(2, 1), closed(300, 2), closed(70000, 1), opened(70001)}},
		{[]entry{closed(2, 1), closed(300, 2), opened(70000)}, "abcdef", []entry{closed(2, 1), closed(300, 2), closed(70000, 3), opened(70001)}},
		{[]entry{closed(9, 1), closed(10, 1), opened(100)}, "abc", []entry{closed(9, 1), closed(10, 1), closed(100, 1), opened(101)}},
		{[]entry{opened(1<<31 - 1)}, "a", []entry{closed(1<<31-1, 1), opened(1 << 31)}},
		{[]entry{opened(1<<31 - 1)}, "", []entry{opened(1 << 31)}},
		{[]entry{closed(1, 1), closed(1<<31-1, 1)}, "ab", []entry{closed(1, 1), closed(1<<31-1, 1), opened(1 << 31)}},
	} {
		x := newPair(t, 400)
		others := x.others()
		x.put("wal", listOf(c.is...))
		left := letters(c.records)
		for _, s := range c.is {
			n := len(left)
			if s.used != 255 {
				n = int(s.used)
			}
			x.lay(logOf(s.number), 32, packed(s.number, left[:n]...)...)
			left = left[n:]
		}
		what := fmt.Sprintf("%+v with %q", c.is, c.records)
		was := x.real.d.Counts()
		x.found(what, letters(c.records)...)
		got := x.real.d.Counts()
		reads := 1
		for _, s := range c.is {
			reads += min(int(s.used), 32)
		}
		if got.Reads != was.Reads+reads || got.Flushes != was.Flushes+2 {
			t.Errorf("%s: %+v behind %+v", what, got, was)
		}
		if got := x.w.Segments(); got != len(c.next) {
			t.Errorf("%s: %d segments", what, got)
		}
		x.listIs(what, c.next...)
		files := with(others, list(len(c.next)))
		for _, s := range c.next {
			files = with(files, log(s.number))
		}
		x.filesAre(what, files...)
		x.sectorsAre(what, c.next[len(c.next)-1].number)
		// It goes on in the new segment, and is the same when it is opened again.
		x.appends([]byte("z"))
		x.sectorsAre(what, c.next[len(c.next)-1].number, framed(c.next[len(c.next)-1].number, 0, []byte("z"))...)
		if c.next[len(c.next)-1].number < 1<<31 {
			x.found(what, append(letters(c.records), []byte("z"))...)
		}
	}
}

// Open writes the list, then the new log, then what a commit writes; the list takes the lowest free sector.
func TestOperationsOfOpen(t *testing.T) {
	for _, records := range []string{"", "abc"} {
		x := newLog(t, 200)
		x.appends(letters(records)...)
		must(t, x.sync())
		y := x.fork()
		was := y.real.d.Counts()
		y.found(records, letters(records)...)
		// The directory has one sector: the list, the log, the directory, a flush, the slot, a flush.
		if got := y.real.d.Counts(); got != (api.Counts{Reads: was.Reads + 1 + 32, Writes: was.Writes + 1 + 32 + 1 + 1, Flushes: was.Flushes + 2}) {
			t.Errorf("%q: %+v behind %+v", records, got, was)
		}
		want := listOf(closed(1, 3), opened(2))
		if records == "" {
			want = listOf(opened(2))
		}
		if got := y.real.d.Image()[2*256:][:len(want)]; !bytes.Equal(got, want) {
			t.Errorf("%q: sector 2 has %x", records, got)
		}
	}
}

// A segment that the list tells of and that is not as it must be.
func TestOpenOfWrongLogs(t *testing.T) {
	good := packed(3, letters("abc")...)
	long := packed(3, some(600, 1), []byte("a")) // of three sectors, and one
	for _, c := range []struct {
		what  string
		l     entry
		lay   func(x *pair)
		reads int // of its log
	}{
		{"missing, open", opened(3), func(x *pair) {}, 0},
		{"missing, closed", closed(3, 1), func(x *pair) {}, 0},
		{"data, open", opened(3), func(x *pair) { x.put("wal.3", make([]byte, 32*256)) }, 0},
		{"data, closed", closed(3, 1), func(x *pair) { x.put("wal.3", good[0]) }, 0},
		{"of one sector, open", opened(3), func(x *pair) { x.lay("wal.3", 1, good[0]) }, 1},
		{"of 31 sectors, open", opened(3), func(x *pair) { x.lay("wal.3", 31, good...) }, 31},
		{"of one sector, closed", closed(3, 2), func(x *pair) { x.lay("wal.3", 1, good[0]) }, 1},
		{"of 31 sectors, closed", closed(3, 32), func(x *pair) { x.lay("wal.3", 31, good...) }, 31},
		{"too few records", closed(3, 4), func(x *pair) { x.lay("wal.3", 32, good...) }, 4},
		{"no records", closed(3, 1), func(x *pair) { x.lay("wal.3", 32) }, 1},
		{"no records of 32", closed(3, 32), func(x *pair) { x.lay("wal.3", 32) }, 32},
		{"31 records of 32", closed(3, 32), func(x *pair) { x.lay("wal.3", 32, packed(3, letters("abcdefghijklmnopqrstuvwxyz01234")...)...) }, 32},
		{"one sector of three", closed(3, 1), func(x *pair) { x.lay("wal.3", 32, long...) }, 1},
		{"two sectors of three", closed(3, 2), func(x *pair) { x.lay("wal.3", 32, long...) }, 2},
		{"a hole", closed(3, 3), func(x *pair) { x.lay("wal.3", 32, good[0], make([]byte, 256), good[2]) }, 3},
		{"a wrong first sector", closed(3, 3), func(x *pair) { x.lay("wal.3", 32, some(256, 3), good[1], good[2]) }, 3},
		{"a wrong last sector", closed(3, 3), func(x *pair) { x.lay("wal.3", 32, good[0], good[1], some(256, 3)) }, 3},
		{"another segment's", closed(3, 3), func(x *pair) { x.lay("wal.3", 32, packed(4, letters("abc")...)...) }, 3},
		{"in another place", closed(3, 2), func(x *pair) { x.lay("wal.3", 32, good[1], good[2]) }, 2},
	} {
		x := newPair(t, 400)
		x.put("wal", listOf(c.l))
		c.lay(x)
		x.refused(c.what, 1+c.reads)
		// So it is where other segments are ahead and behind; the ones behind are not read.
		x = newPair(t, 400)
		c.lay(x)
		x.lay("wal.1", 32, packed(1, letters("xy")...)...)
		x.lay("wal.4", 32, packed(4, letters("xy")...)...)
		x.lay("wal.5", 32, packed(5, letters("xy")...)...)
		if c.l.used != 255 {
			x.put("wal", listOf(closed(1, 2), c.l, closed(4, 2), opened(5)))
		} else {
			x.put("wal", listOf(closed(1, 2), c.l))
		}
		x.refused(c.what, 1+2+c.reads)
	}
}

// Of a closed segment just the sectors that are in use are looked at: what is behind them, and how many there are, does not matter.
func TestOpenLooksAtTheSectorsInUse(t *testing.T) {
	good := packed(3, letters("abc")...)
	for _, c := range []struct {
		what string
		used byte
		lay  func(x *pair)
		want string
	}{
		{"the log has just these", 3, func(x *pair) { x.lay("wal.3", 3, good...) }, "abc"},
		{"the log has more", 3, func(x *pair) { x.lay("wal.3", 40, good...) }, "abc"},
		{"there are more records", 2, func(x *pair) { x.lay("wal.3", 32, good...) }, "ab"},
		{"there are others behind", 1, func(x *pair) { x.lay("wal.3", 32, good[0], some(256, 4)) }, "a"},
		{"none is in use", 0, func(x *pair) { x.lay("wal.3", 32, good...) }, ""},
		{"none is in use, of data", 0, func(x *pair) { x.put("wal.3", []byte("data")) }, ""},
		{"none is in use, of no file", 0, func(x *pair) {}, ""},
	} {
		x := newPair(t, 300)
		x.put("wal", listOf(closed(3, c.used)))
		c.lay(x)
		was := x.real.d.Counts()
		x.found(c.what, letters(c.want)...)
		if got := x.real.d.Counts().Reads - was.Reads; got != 1+int(c.used) {
			t.Errorf("%s: %d reads", c.what, got)
		}
		x.listIs(c.what, closed(3, c.used), opened(4))
	}
	// An open one may have more than 32 sectors: these are not its own.
	x := newPair(t, 300)
	x.put("wal", listOf(opened(3)))
	full := packed(3, letters("abcdefghijklmnopqrstuvwxyz012345")...)
	x.lay("wal.3", 40, append(full, sector(1, 3, 32, []byte("z")))...)
	x.found("a log of 40 sectors", letters("abcdefghijklmnopqrstuvwxyz012345")...)
	x.listIs("a log of 40 sectors", closed(3, 32), opened(4))
}

// Of an open segment the records count up to the first one that is not complete, whatever stands behind.
func TestOpenOfWhatIsNotComplete(t *testing.T) {
	a, b := framed(3, 0, []byte("a")), framed(3, 1, some(600, 1))
	for what, behind := range map[string][][]byte{
		"zeros":                         nil,
		"noise":                         {some(256, 1)},
		"the first piece":               {b[0]},
		"the first two":                 {b[0], b[1]},
		"without the first":             {make([]byte, 256), b[1], b[2]},
		"without the middle":            {b[0], make([]byte, 256), b[2]},
		"without the last, and another": {b[0], b[1], make([]byte, 256), framed(3, 4, []byte("z"))[0]},
		"a hole, and another":           {make([]byte, 256), framed(3, 2, []byte("z"))[0]},
		"another segment's":             framed(2, 1, []byte("z")),
		"the next segment's":            framed(4, 1, []byte("z")),
		"in another place":              framed(3, 2, []byte("z")),
		"the same again":                a,
		"a changed one":                 {append(slices.Clone(b[0][:255]), b[0][255]^1), b[1], b[2]},
	} {
		x := newPair(t, 300)
		x.put("wal", listOf(closed(1, 0), opened(3)))
		x.lay("wal.3", 32, slices.Concat(a, behind)...)
		x.found(what, []byte("a"))
		x.listIs(what, closed(1, 0), closed(3, 1), opened(4))
		x.filesAre(what, list(3), log(3), log(4))
		x.found(what+", again", []byte("a"))
		x.listIs(what+", again", closed(1, 0), closed(3, 1), opened(5))
		// Where no record is complete, the segment is left out.
		x = newPair(t, 300)
		x.put("wal", listOf(closed(1, 0), opened(3)))
		x.lay("wal.3", 32, slices.Concat([][]byte{make([]byte, 256)}, behind)...)
		x.found(what)
		x.listIs(what, closed(1, 0), opened(4))
		x.filesAre(what, list(2), log(4))
	}
}

// Records of any size, in closed segments and in an open one.
func TestOpenOfRecordsOfAnySize(t *testing.T) {
	for _, c := range sizes {
		r := some(c.size, 3)
		x := newPair(t, 300)
		x.put("wal", listOf(closed(1, byte(c.sectors)), opened(2)))
		x.lay("wal.1", 32, packed(1, r)...)
		x.lay("wal.2", 32, packed(2, r)...)
		x.found("two of them", r, r)
		x.listIs("two of them", closed(1, byte(c.sectors)), closed(2, byte(c.sectors)), opened(3))
	}
}

// unlisted are logs that the list does not tell of: they stay, and have no part in it.
func TestOpenLeavesOtherFiles(t *testing.T) {
	x := newPair(t, 400)
	others := x.others()
	x.put("wal", listOf(closed(1, 1), opened(4)))
	for _, number := range []uint64{1, 2, 3, 4, 6} {
		x.lay(logOf(number), 32, framed(number, 0, []byte{byte(number)})...)
	}
	x.put("wal.", []byte("stays"))
	x.found("others", []byte{1}, []byte{4})
	x.filesAre("others", with(others, api.File{Name: "wal.", Size: 5}, list(3), log(1), log(2), log(3), log(4), log(5), log(6))...)
}

// noRoom is what a log without room is: nothing of the store has changed, and Append takes nothing, until a Begin.
func (x *pair) noRoom(what string, is []entry, records ...[]byte) {
	x.t.Helper()
	files, free := x.real.s.Files(), x.real.s.Free()
	x.found(what, records...)
	if x.w.Segments() != len(is) {
		x.t.Errorf("%s: %d segments, want %d", what, x.w.Segments(), len(is))
	}
	if e := x.append(make([]byte, 7681)); e != api.ErrFrameLong {
		x.t.Errorf("%s: Append of 7681 bytes: %v", what, e)
	}
	was := x.real.d.Counts()
	for range 2 {
		for _, n := range []int{0, 1, 7680} {
			if e := x.append(make([]byte, n)); e != api.ErrFull {
				x.t.Errorf("%s: Append of %d bytes: %v", what, n, e)
			}
		}
	}
	if x.real.d.Counts() != was || x.w.Records() != len(records) || x.w.Segments() != len(is) {
		x.t.Errorf("%s: Append has changed something", what)
	}
	must(x.t, x.sync())
	if got := x.real.d.Counts(); got != (api.Counts{Reads: was.Reads, Writes: was.Writes, Flushes: was.Flushes + 1}) {
		x.t.Errorf("%s: Sync: %+v behind %+v", what, got, was)
	}
	x.listIs(what, is...)
	if !slices.Equal(x.real.s.Files(), files) || x.real.s.Free() != free {
		x.t.Errorf("%s: the store has changed: %+v, %d free", what, x.real.s.Files(), x.real.s.Free())
	}
}

// logsOf lays a list, and logs whose records are three letters each.
func (x *pair) logsOf(is ...entry) [][]byte {
	x.t.Helper()
	x.put("wal", listOf(is...))
	var all [][]byte
	for _, s := range is {
		if s.used != 0 {
			x.lay(logOf(s.number), 32, packed(s.number, letters("abc")...)...)
			all = append(all, letters("abc")...)
		}
	}
	return all
}

func TestOpenWithoutRoom(t *testing.T) {
	for _, is := range [][]entry{
		{}, {opened(1)}, {closed(1, 0)}, {closed(1, 3)}, {closed(1, 3), opened(2)}, {closed(1, 3), closed(4, 3)},
	} {
		for free := 1; free < 37; free++ {
			x := newPair(t, 300)
			records := x.logsOf(is...)
			x.leave(free)
			if free >= 34 { // of the list, the log and the directory
				x.found("with room", records...)
				continue
			}
			x.noRoom("without room", is, records...)
			// It is the same when it is opened again, also behind a crash.
			x.noRoom("again", is, records...)
			x.cut()
			x.noRoom("behind a crash", is, records...)
			// With room again it goes on.
			y := x.fork()
			must(t, y.remove("filler"), y.commit())
			y.found("with room again", records...)
			y.appends([]byte("z"))
			y.found("with room again", append(records, []byte("z"))...)
			// And so does a Begin.
			must(t, x.remove("filler"), x.commit(), x.begin(), x.commit())
			x.appends([]byte("z"))
			x.found("behind Begin", []byte("z"))
		}
	}
}

// A segment that is left out makes no room before the commit.
func TestOpenOfNoRecordsWithoutRoom(t *testing.T) {
	for free := 1; free < 37; free++ {
		x := newPair(t, 300)
		x.put("wal", listOf(closed(2, 0), opened(3)))
		x.lay("wal.3", 32)
		x.leave(free)
		if free >= 34 {
			x.found("with room")
			x.listIs("with room", closed(2, 0), opened(4))
			continue
		}
		x.noRoom("without room", []entry{closed(2, 0), opened(3)})
		x.filesAre("without room", append([]api.File{{Name: "filler", Size: 256 * (x.real.d.Sectors() - 2 - 1 - 1 - 32 - free)}}, list(2), log(3))...)
	}
}

// Each call that Open stages may return an error: what was staged is dropped, and the log has no room.
func TestOpenWithAnErrorOfEachCall(t *testing.T) {
	empty := func(name string) func(s *extent.Store) api.Errno {
		return func(s *extent.Store) api.Errno { return s.Put(name, nil) }
	}
	gone := func(name string) func(s *extent.Store) api.Errno {
		return func(s *extent.Store) api.Errno { return s.Remove(name) }
	}
	for what, lay := range map[string]func(x *pair){
		"wal is removed":        func(x *pair) { must(t, x.both(gone("wal"))) },
		"the new log is there":  func(x *pair) { must(t, x.both(empty("wal.4")), x.commit()) },
		"the new log is staged": func(x *pair) { must(t, x.both(empty("wal.4"))) },
		"there are many files":  func(x *pair) { x.many(256 - len(x.real.s.Files())) },
		"the directory is long": func(x *pair) { x.many(20); x.leave(33) },
		"the last generation":   func(x *pair) { x.last() },
		"no room for a list": func(x *pair) {
			x.both(func(s *extent.Store) api.Errno { return s.Put("b", make([]byte, 256*s.Free())) })
		},
		"no room for a log":       func(x *pair) { x.leave(32) },
		"no room for directories": func(x *pair) { x.leave(33) },
	} {
		for _, last := range []entry{opened(3), closed(3, 3)} {
			x := newPair(t, 300)
			records := x.logsOf(closed(1, 3), last)
			lay(x)
			x.drops(what, []entry{closed(1, 3), last}, records...)
		}
	}
	// A segment without records is removed first; where its log is removed already, that is an error.
	x := newPair(t, 300)
	x.put("wal", listOf(closed(2, 0), opened(3)))
	x.lay("wal.3", 32)
	must(t, x.both(gone("wal.3")))
	x.drops("the log is removed", []entry{closed(2, 0), opened(3)})
	// Where it has records, it is not removed.
	x = newPair(t, 300)
	records := x.logsOf(closed(2, 0), opened(3))
	must(t, x.both(gone("wal.3")))
	x.found("the log is removed", records...)
	x.listIs("the log is removed", closed(2, 0), closed(3, 3), opened(4))
	x.filesAre("the log is removed", list(3), log(4))
}

// drops opens a log that has no room then; all that was staged, also by others, is dropped.
func (x *pair) drops(what string, is []entry, records ...[]byte) {
	x.t.Helper()
	files := x.real.s.Files()
	must(x.t, x.both(func(s *extent.Store) api.Errno { s.Put("other", nil); return api.OK }))
	x.found(what, records...)
	if e := x.append(nil); e != api.ErrFull {
		x.t.Errorf("%s: Append: %v", what, e)
	}
	y := x.fork() // what would be there behind a crash
	if !slices.Equal(x.real.s.Files(), files) || !slices.Equal(y.real.s.Files(), files) {
		x.t.Errorf("%s: Files are %+v", what, x.real.s.Files())
	}
	x.listIs(what, is...)
	if x.w.Segments() != len(is) || x.w.Records() != len(records) {
		x.t.Errorf("%s: %d segments, %d records", what, x.w.Segments(), x.w.Records())
	}
	if x.commit() == api.OK && !slices.Equal(x.real.s.Files(), files) {
		x.t.Errorf("%s: behind a Commit, Files are %+v", what, x.real.s.Files())
	}
}

// last lets the store have the last generation that there is, so that each commit is an error.
func (x *pair) last() {
	x.t.Helper()
	x.generation(1 << 62)
	if e := x.commit(); e != api.ErrExtentMany {
		x.t.Fatalf("the last generation: %v", e)
	}
}

// generation lets the store have this one.
func (x *pair) generation(n uint64) {
	x.t.Helper()
	must(x.t, x.both((*extent.Store).Flush))
	for _, y := range x.sides() {
		image := y.d.Image()
		at := 0
		if value(image[260:268]) > value(image[4:12]) {
			at = 256
		}
		copy(image[at:], sealed(slices.Concat(image[at:at+4], little(n, 8), image[at+12:at+252])))
		y.d = loaded(x.t, image)
	}
	x.find()
}

// There is no next number: the log has no room, and nothing is written.
func TestOpenOfTheGreatestNumber(t *testing.T) {
	for _, last := range []entry{opened(1 << 31), closed(1<<31, 3), closed(1<<31, 0)} {
		for _, ahead := range [][]entry{{}, {closed(1, 3)}, {closed(5, 0), closed(1<<31-1, 3)}} {
			is := append(ahead, last)
			x := newPair(t, 300)
			records := x.logsOf(is...)
			was := x.real.d.Counts()
			y := x.fork()
			x.found("the greatest number", records...)
			if got := x.real.d.Counts(); got.Writes != was.Writes || got.Flushes != was.Flushes {
				t.Errorf("%+v behind %+v", got, was)
			}
			x.drops("the greatest number", is, records...)
			y.noRoom("the greatest number", is, records...)
			// Begin has no number either; the log is gone then, and the next one begins at 1.
			if e := y.begin(); e != api.ErrFull {
				t.Error(e)
			}
			must(t, y.commit(), y.begin(), y.commit())
			y.listIs("anew", opened(1))
		}
	}
	// Also where it is left out.
	x := newPair(t, 300)
	x.put("wal", listOf(opened(1<<31)))
	x.lay(logOf(1<<31), 32)
	x.noRoom("the greatest number", []entry{opened(1 << 31)})
}

// The list can't tell of more segments than two bytes can count.
func TestOpenOfVeryManySegments(t *testing.T) {
	for _, c := range []struct {
		n       int
		last    entry
		hasRoom bool
	}{
		{65534, closed(70000, 0), true},
		{65535, closed(70000, 0), false},
		{65535, opened(70000), true}, // of no records, it is left out
	} {
		x := newPair(t, 5000)
		var is []entry
		for i := range c.n - 1 {
			is = append(is, closed(uint64(i+1), 0))
		}
		is = append(is, c.last)
		x.put("wal", listOf(is...))
		if c.last.used == 255 {
			x.lay("wal.70000", 32)
		}
		if !c.hasRoom {
			x.noRoom("very many", is)
			continue
		}
		x.found("very many")
		x.appends([]byte("a"))
		if x.w.Segments() != 65535 {
			t.Errorf("%d segments", x.w.Segments())
		}
		// Then there is none behind.
		if e := x.append(make([]byte, 7680)); e != api.ErrFull || x.w.Segments() != 65535 {
			t.Errorf("a segment too many: %v", e)
		}
		x.appends([]byte("b"))
		x.found("very many", []byte("a"), []byte("b"))
	}
}

// The power may be gone at each operation of Open: it is ErrDark, not ErrWalForm, and not a log without room.
func TestOpenInTheDark(t *testing.T) {
	for _, is := range [][]entry{
		{}, {opened(1)}, {closed(1, 3)}, {closed(1, 3), opened(2)}, {closed(1, 3), closed(2, 0), opened(7)}, {closed(1, 0), closed(4, 3), closed(7, 3)},
	} {
		x := newPair(t, 300)
		records := x.logsOf(is...)
		y := x.fork()
		was := y.real.d.Counts()
		y.found("with power", records...)
		all := y.real.d.Counts()
		dark := 0
		for n := range 300 {
			y := x.fork()
			y.trip(n)
			if _, e := y.open(); e == api.OK {
				break
			} else if e != api.ErrDark {
				t.Errorf("%+v, %d operations: %v", is, n, e)
			}
			dark++
			if _, e := y.open(); e != api.ErrDark {
				t.Errorf("%+v, again: %v", is, e)
			}
			for _, kept := range []bool{false, true} {
				z := x.fork()
				z.trip(n)
				z.open()
				z.cut(slices.Repeat([]bool{kept}, 100)...)
				z.found("behind the dark", records...)
				z.appends([]byte("z"))
				z.found("behind the dark", append(records, []byte("z"))...)
			}
		}
		if dark != all.Reads-was.Reads+all.Writes+all.Flushes {
			t.Errorf("%+v: dark at %d operations, of %+v behind %+v", is, dark, all, was)
		}
	}
	// Malformed logs too are read no further in the dark.
	x := newPair(t, 300)
	x.put("wal", listOf(closed(1, 3)))
	x.lay("wal.1", 32)
	for n := range 4 {
		y := x.fork()
		y.trip(n)
		if _, e := y.open(); e != api.ErrDark {
			t.Errorf("%d operations: %v", n, e)
		}
	}
	y := x.fork()
	y.trip(4)
	y.refused("malformed", 4)
}

// A second Open returns the same records, whether the first one is written to or not.
func TestOpenAgain(t *testing.T) {
	x := newLog(t, 1000)
	want := [][]byte{some(300, 1), []byte("a"), nil, some(7680, 2), some(7000, 3)}
	x.appends(want...)
	for i := range uint64(6) {
		x.found("again", want...)
		x.listIs("again", closed(1, 4), closed(2, 32), closed(3, 30), opened(4+i))
	}
}
