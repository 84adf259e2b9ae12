package wal_test

import (
	"bytes"
	"fmt"
	"slices"
	"strconv"
	"testing"

	"barograph/api"
	"barograph/extent"
	"barograph/wal"
)

// bad is what the file wal may hold without being a list.
type bad struct {
	what string
	data []byte
}

func malformed() []bad {
	l := []bad{
		{"no list and a byte behind", []byte{0, 0, 0}},
		{"no list and an entry behind", append([]byte{0, 0}, listOf(opened(1))[2:]...)},
		{"the count's bytes in the other order", append([]byte{0, 1}, listOf(opened(1))[2:]...)},
		{"a count of 256 more", append([]byte{1, 1}, listOf(opened(1))[2:]...)},
		{"a count of one more", append([]byte{3, 0}, listOf(closed(1, 0), opened(2))[2:]...)},
		{"a count of one less", append([]byte{1, 0}, listOf(closed(1, 0), opened(2))[2:]...)},
		{"a byte behind", append(listOf(closed(1, 0), opened(2)), 0)},
		{"another byte behind", append(listOf(opened(1)), 0xff)},
		{"the number 0", listOf(opened(0))},
		{"the number 0, closed", listOf(closed(0, 0))},
		{"the number 0 ahead", listOf(closed(0, 0), opened(1))},
		{"the number 0 behind", listOf(closed(1, 0), opened(0))},
		{"a number above 2^31", listOf(opened(1<<31 + 1))},
		{"a number above 2^31, closed", listOf(closed(1<<31+1, 0))},
		{"a number above 2^31 behind", listOf(closed(1, 0), closed(1<<31, 0), opened(1<<31+1))},
		{"the greatest four bytes", listOf(opened(1<<32 - 1))},
		{"equal numbers", listOf(closed(3, 0), opened(3))},
		{"equal numbers, closed", listOf(closed(3, 0), closed(3, 0))},
		{"equal greatest numbers", listOf(closed(1<<31, 0), opened(1<<31))},
		{"equal numbers in the middle", listOf(closed(1, 0), closed(3, 0), closed(3, 0), opened(4))},
		{"numbers that fall", listOf(closed(3, 0), opened(2))},
		{"numbers that fall ahead", listOf(closed(2, 0), closed(1, 0), opened(3))},
		{"numbers that fall, with all bytes", listOf(closed(0x01000000, 0), opened(0x00ffffff))},
		{"an open one ahead", listOf(opened(1), opened(2))},
		{"an open one ahead of a closed one", listOf(opened(1), closed(2, 0))},
		{"an open one in the middle", listOf(closed(1, 0), opened(2), closed(3, 0))},
	}
	for n := range 12 {
		l = append(l, bad{fmt.Sprintf("%d bytes", n), listOf(closed(1, 0), opened(2))[:n]})
	}
	for used := 33; used <= 254; used++ {
		l = append(l, bad{fmt.Sprintf("%d sectors", used), listOf(closed(1, byte(used)))})
	}
	for _, used := range []byte{33, 254} {
		l = append(l, bad{"such ahead", listOf(closed(1, used), opened(2))}, bad{"such behind", listOf(closed(1, 0), closed(2, used))})
	}
	return l
}

func TestMalformedIsMalformed(t *testing.T) {
	for _, b := range malformed() {
		if _, ok := entriesOf(b.data); ok {
			t.Errorf("%s: it is a list", b.what)
		}
	}
}

// others are files that Begin leaves as they are.
func (x *pair) others() []api.File {
	x.t.Helper()
	for _, name := range []string{"-wal.1", "b1", "head", "wa", "wal-1", "wal0", "walx", "xwal.1"} {
		x.put(name, []byte(name))
	}
	x.lay("wal-2", 2)
	return []api.File{{Name: "-wal.1", Size: 6}, {Name: "b1", Size: 2}, {Name: "head", Size: 4}, {Name: "wa", Size: 2}, {Name: "wal-1", Size: 5}, {Name: "wal-2", Log: true, Size: 2}, {Name: "wal0", Size: 4}, {Name: "walx", Size: 4}, {Name: "xwal.1", Size: 6}}
}

// with is a list of files and some more.
func with(l []api.File, more ...api.File) []api.File {
	l = slices.Concat(l, more)
	slices.SortFunc(l, func(a, b api.File) int { return bytes.Compare([]byte(a.Name), []byte(b.Name)) })
	return l
}

// Without a file wal, nothing is read and nothing is removed, and the number is 1.
func TestBeginWithoutAList(t *testing.T) {
	x := newPair(t, 400)
	others := x.others()
	x.put("wal.", []byte("stays"))
	x.put("wal.2", []byte("stays"))
	x.lay("wal.7", 32, framed(7, 0, []byte("a"))...)
	others = append(others, api.File{Name: "wal.", Size: 5}, api.File{Name: "wal.2", Size: 5}, log(7))
	was := x.real.d.Counts()
	must(t, x.begin())
	if got := x.real.d.Counts(); got != (api.Counts{Reads: was.Reads, Writes: was.Writes + 33, Flushes: was.Flushes}) {
		t.Errorf("%+v behind %+v", got, was)
	}
	must(t, x.commit())
	x.filesAre("Begin", with(others, list(1), log(1))...)
	x.listIs("Begin", opened(1))
	x.sectorsAre("Begin", 1)
}

// The number is one more than that of the last segment of the list, whatever the logs are.
func TestBeginBehindAList(t *testing.T) {
	for _, c := range []struct {
		l    []entry
		next uint64
	}{
		{nil, 1},
		{[]entry{opened(1)}, 2},
		{[]entry{closed(1, 0)}, 2},
		{[]entry{closed(1, 32)}, 2},
		{[]entry{closed(1, 31), closed(5, 32), opened(6)}, 7},
		{[]entry{closed(1, 31), closed(5, 32)}, 6},
		{[]entry{opened(255)}, 256},
		{[]entry{opened(65535)}, 65536},
		{[]entry{opened(1 << 24)}, 1<<24 + 1},
		{[]entry{closed(5, 1), opened(1<<31 - 1)}, 1 << 31},
		{[]entry{closed(1<<31-1, 1)}, 1 << 31},
	} {
		x := newPair(t, 400)
		others := x.others()
		x.put("wal", listOf(c.l...))
		was := x.real.d.Counts()
		must(t, x.begin())
		if got := x.real.d.Counts(); got != (api.Counts{Reads: was.Reads + 1, Writes: was.Writes + 33, Flushes: was.Flushes}) {
			t.Errorf("%+v: %+v behind %+v", c.l, got, was)
		}
		must(t, x.commit())
		x.filesAre("Begin", with(others, list(1), log(c.next))...)
		x.listIs("Begin", opened(c.next))
		x.appends([]byte("a"))
		x.sectorsAre("Append", c.next, framed(c.next, 0, []byte("a"))...)
	}
}

// All files whose names begin with wal. are removed, of any kind and any name, and no others.
func TestBeginRemovesTheOldLogs(t *testing.T) {
	x := newPair(t, 700)
	others := x.others()
	x.put("wal", listOf(closed(9, 1), opened(10)))
	for _, name := range []string{"wal.", "wal.-", "wal..", "wal.1", "wal.a", "wal.b1", "wal.wal.1"} {
		x.put(name, []byte(name))
	}
	for _, number := range []uint64{2, 9, 10, 11, 100} {
		x.lay(logOf(number), 32, framed(number, 0, []byte("a"))...)
	}
	x.lay("wal.x", 1)
	free := x.free()
	must(t, x.begin())
	if x.free() != free-33 {
		t.Errorf("%d sectors are free, of %d", x.free(), free)
	}
	must(t, x.commit())
	x.filesAre("Begin", with(others, list(1), log(11))...)
	x.sectorsAre("Begin", 11)
}

// old has a list, others, and logs with records.
func (x *pair) old(data []byte) []api.File {
	x.t.Helper()
	others := x.others()
	x.put("wal", data)
	x.lay("wal.1", 32, framed(1, 0, []byte("a"))...)
	x.lay("wal.2", 32)
	return others
}

func TestBeginBehindAMalformedList(t *testing.T) {
	x := newPair(t, 400)
	others := x.old(nil)
	for _, b := range malformed() {
		x := x.fork()
		must(t, x.remove("wal"))
		x.put("wal", b.data)
		was := x.real.d.Counts()
		must(t, x.begin(), x.commit())
		if got := x.real.d.Counts(); got.Reads-was.Reads > 1 {
			t.Errorf("%s: %+v behind %+v", b.what, got, was)
		}
		x.filesAre(b.what, with(others, list(1), log(1))...)
		x.listIs(b.what, opened(1))
		x.sectorsAre(b.what, 1)
	}
}

func TestBeginBehindAListThatIsALog(t *testing.T) {
	x := newPair(t, 400)
	others := x.others()
	x.lay("wal", 3, append(listOf(opened(7)), make([]byte, 249)...))
	x.lay("wal.7", 32)
	was := x.real.d.Counts()
	must(t, x.begin())
	if x.real.d.Counts().Reads != was.Reads {
		t.Error("a log is read")
	}
	must(t, x.commit())
	x.filesAre("a log", with(others, list(1), log(1))...)
}

// spoil changes a byte of the durable bytes of a file, where its data begin with these.
func (x *pair) spoil(data []byte) {
	x.t.Helper()
	for _, y := range x.sides() {
		image := y.d.Image()
		found := 0
		for at := 0; at < len(image); at += 256 {
			if bytes.HasPrefix(image[at:], data) {
				image[at+len(data)-1] ^= 0x40
				found++
			}
		}
		if found == 0 {
			x.t.Fatal("there are no such bytes")
		}
		y.d = loaded(x.t, image)
	}
	x.find()
}

// A list whose bytes are not those that were put can't be read.
func TestBeginBehindAListWithWrongBytes(t *testing.T) {
	x := newPair(t, 400)
	others := x.old(listOf(closed(76, 3), opened(77)))
	y := x.fork()
	y.spoil(listOf(closed(76, 3), opened(77)))
	if _, e := y.real.s.Get("wal"); e != api.ErrExtentForm {
		t.Fatal(e)
	}
	y.spoken.s.Get("wal")
	must(t, y.begin(), y.commit())
	y.filesAre("wrong bytes", with(others, list(1), log(1))...)
	must(t, x.begin(), x.commit())
	x.filesAre("right bytes", with(others, list(1), log(78))...)
}

// The logs are not looked at: they may be missing, data, or of any bytes.
func TestBeginDoesNotReadLogs(t *testing.T) {
	for name, lay := range map[string]func(x *pair){
		"missing":     func(x *pair) {},
		"data":        func(x *pair) { x.put("wal.5", []byte("data")) },
		"short":       func(x *pair) { x.lay("wal.5", 1) },
		"wrong bytes": func(x *pair) { x.lay("wal.5", 32, some(256, 1), some(256, 2)) },
		"too few":     func(x *pair) { x.lay("wal.5", 32, framed(5, 0, []byte("a"))...) },
	} {
		for _, last := range []entry{opened(5), closed(5, 0), closed(5, 2)} {
			x := newPair(t, 200)
			x.put("wal", listOf(last))
			lay(x)
			was := x.real.d.Counts()
			must(t, x.begin())
			if x.real.d.Counts().Reads != was.Reads+1 {
				t.Errorf("%s: a log is read", name)
			}
			must(t, x.commit())
			x.filesAre(name, list(1), log(6))
		}
	}
}

// There is no number behind the greatest one: ErrFull, before wal is put; that the old log is gone stays staged.
func TestBeginBehindTheGreatestNumber(t *testing.T) {
	for _, last := range []entry{opened(1 << 31), closed(1<<31, 0), closed(1<<31, 32)} {
		x := newPair(t, 400)
		others := x.others()
		x.put("wal", listOf(closed(4, 0), last))
		x.lay(logOf(1<<31), 32)
		x.put("wal.4", nil)
		x.put("wal.x", []byte("data"))
		was := x.real.d.Counts()
		if e := x.begin(); e != api.ErrFull {
			t.Errorf("%+v: %v", last, e)
		}
		if got := x.real.d.Counts(); got != (api.Counts{Reads: was.Reads + 1, Writes: was.Writes, Flushes: was.Flushes}) {
			t.Errorf("%+v: %+v behind %+v", last, got, was)
		}
		must(t, x.commit())
		x.filesAre("what was staged", others...)
		must(t, x.begin(), x.commit())
		x.filesAre("again", with(others, list(1), log(1))...)
	}
}

// What Begin stages takes effect by Commit, and not at all by Drop.
func TestBeginStages(t *testing.T) {
	x := newLog(t, 300)
	x.appends([]byte("a"), []byte("b"))
	must(t, x.sync())
	free := x.free()
	must(t, x.begin())
	x.filesAre("staged", list(1), log(1))
	x.listIs("staged", opened(1))
	if x.free() != free-33 {
		t.Errorf("%d sectors are free, of %d", x.free(), free)
	}
	x.drop()
	if x.free() != free {
		t.Errorf("%d sectors are free, of %d", x.free(), free)
	}
	l, e := x.open()
	must(t, e)
	if !sameRecords(l, [][]byte{[]byte("a"), []byte("b")}) {
		t.Errorf("%q", l)
	}
	// Without a Commit, a crash leaves what was there.
	must(t, x.begin())
	x.cut(slices.Repeat([]bool{true}, 100)...)
	l, e = x.open()
	must(t, e)
	if !sameRecords(l, [][]byte{[]byte("a"), []byte("b")}) {
		t.Errorf("%q", l)
	}
}

// What others have staged is kept, and committed along.
func TestBeginBesideOtherChanges(t *testing.T) {
	x := newLog(t, 300)
	must(t, x.both(func(s *extent.Store) api.Errno { return s.Put("head", []byte("h")) }), x.begin())
	must(t, x.both(func(s *extent.Store) api.Errno { return s.Put("b1", nil) }), x.commit())
	x.filesAre("all", api.File{Name: "b1"}, api.File{Name: "head", Size: 1}, list(1), log(2))
}

// many are so many empty files.
func (x *pair) many(n int) {
	x.t.Helper()
	for i := range n {
		must(x.t, x.both(func(s *extent.Store) api.Errno { return s.Put("f"+strconv.Itoa(i), nil) }))
	}
	must(x.t, x.commit())
}

// Each call of Begin may return an error; what was staged before it stays staged.
func TestBeginWithAnErrorOfEachCall(t *testing.T) {
	logs := func(x *pair) {
		x.put("wal", listOf(opened(2)))
		for _, name := range []string{"wal.1", "wal.2", "wal.3"} {
			x.put(name, nil)
		}
	}
	empty := func(name string) api.File { return api.File{Name: name} }
	for _, c := range []struct {
		what string
		lay  func(x *pair)
		want api.Errno
		then []api.File
	}{
		{"wal is removed already", func(x *pair) { logs(x); x.remove("wal") }, api.ErrExtentNoFile, []api.File{empty("wal.1"), empty("wal.2"), empty("wal.3")}},
		{"wal.1 is removed already", func(x *pair) { logs(x); x.remove("wal.1") }, api.ErrExtentNoFile, []api.File{empty("wal.2"), empty("wal.3")}},
		{"wal.2 is removed already", func(x *pair) { logs(x); x.remove("wal.2") }, api.ErrExtentNoFile, []api.File{empty("wal.3")}},
		{"wal.3 is removed already", func(x *pair) { logs(x); x.remove("wal.3") }, api.ErrExtentNoFile, nil},
		{"wal is staged already", func(x *pair) { x.both(func(s *extent.Store) api.Errno { return s.Put("wal", []byte("staged")) }) }, api.ErrExtentThere, []api.File{{Name: "wal", Size: 6}}},
		{"wal.1 is there", func(x *pair) { x.put("wal.1", nil) }, api.ErrExtentThere, []api.File{list(1), empty("wal.1")}},
		{"wal.3 is staged already", func(x *pair) {
			x.put("wal", listOf(opened(2)))
			x.both(func(s *extent.Store) api.Errno { return s.Put("wal.3", []byte("staged")) })
		}, api.ErrExtentThere, []api.File{list(1), {Name: "wal.3", Size: 6}}},
		{"no room for wal", func(x *pair) {
			x.both(func(s *extent.Store) api.Errno { return s.Put("b", make([]byte, 256*s.Free())) })
		}, api.ErrFull, nil},
		{"no room for the log", func(x *pair) {
			x.both(func(s *extent.Store) api.Errno { return s.Put("b", make([]byte, 256*(s.Free()-32))) })
		}, api.ErrFull, nil},
	} {
		x := newPair(t, 100)
		c.lay(x)
		if e := x.begin(); e != c.want {
			t.Errorf("%s: %v, want %v", c.what, e, c.want)
		}
		if c.then != nil {
			must(t, x.commit())
			x.filesAre(c.what, c.then...)
		}
		x.commit()
	}
}

// What Begin has staged when there is no room for the log: the list is put, and takes its room.
func TestBeginWithoutRoomForTheLog(t *testing.T) {
	for free := range 40 {
		x := newPair(t, 60)
		must(t, x.both(func(s *extent.Store) api.Errno { return s.Put("b", make([]byte, 256*(s.Free()-free))) }))
		want := api.OK
		if free < 33 {
			want = api.ErrFull
		}
		if e := x.begin(); e != want {
			t.Errorf("with %d free: %v", free, e)
		}
		left := free
		switch {
		case free >= 33:
			left -= 33
		case free >= 1:
			left--
		}
		if x.free() != left {
			t.Errorf("with %d free, %d are left", free, x.free())
		}
		x.commit()
	}
}

func TestBeginWithTooManyFiles(t *testing.T) {
	for files := 252; files <= 256; files++ {
		x := newPair(t, 400)
		x.many(files)
		want := api.OK
		if files > 254 {
			want = api.ErrFull // and not ErrExtentMany
		}
		if e := x.begin(); e != want {
			t.Errorf("beside %d files: %v", files, e)
		}
		must(t, x.commit())
		if got := len(x.real.s.Files()); got != min(256, files+2) {
			t.Errorf("beside %d files: %d files", files, got)
		}
	}
	// A log that is there makes way.
	x := newPair(t, 400)
	x.many(254)
	must(t, x.begin(), x.commit(), x.begin(), x.commit())
	if len(x.real.s.Files()) != 256 || x.w.Segments() != 1 {
		t.Error("it has not made way")
	}
}

// The power may be gone at each operation of Begin, also where wal is read; nothing else is done then.
func TestBeginInTheDark(t *testing.T) {
	for name, lay := range map[string]func(x *pair){
		"no list":           func(x *pair) { x.others() },
		"a list":            func(x *pair) { x.old(listOf(closed(1, 1), opened(2))) },
		"a malformed list":  func(x *pair) { x.old([]byte("malformed")) },
		"a long list":       func(x *pair) { x.old(make([]byte, 1000)) },
		"the last number":   func(x *pair) { x.old(listOf(opened(1 << 31))) },
		"a log as a list":   func(x *pair) { x.lay("wal", 2) },
		"a list, no others": func(x *pair) { x.put("wal", listOf()) },
	} {
		x := newPair(t, 300)
		lay(x)
		dark := 0
		for n := range 60 {
			y := x.fork()
			y.trip(n)
			if y.begin() != api.ErrDark {
				break
			}
			dark++
			y.same(name)
			// Behind it, all is dark, and nothing takes effect.
			if e := y.begin(); e != api.ErrDark {
				t.Errorf("%s: again: %v", name, e)
			}
			if e := y.commit(); e != api.ErrDark {
				t.Errorf("%s: Commit: %v", name, e)
			}
			files := y.real.s.Files()
			y.cut(slices.Repeat([]bool{true}, n)...)
			if !slices.Equal(y.real.s.Files(), files) {
				t.Errorf("%s: Begin alone has changed the files", name)
			}
		}
		want := map[string]int{"no list": 33, "a list": 34, "a malformed list": 34, "a long list": 37, "the last number": 1, "a log as a list": 33, "a list, no others": 34}
		if dark != want[name] {
			t.Errorf("%s: %d operations, want %d", name, dark, want[name])
		}
	}
}

// Each Begin is a log of its own.
func TestTwoBegins(t *testing.T) {
	x := newLog(t, 300)
	x.appends([]byte("a"))
	v, _ := wal.Begin(x.real.s)
	plainBegin(x.spoken.s)
	if x.w.Records() != 1 || v.Records() != 0 {
		t.Error("they share records")
	}
}
