package extent_test

import (
	"bytes"
	"fmt"
	"math"
	"slices"
	"strings"
	"testing"

	"barograph/api"
	"barograph/disk"
	"barograph/extent"
)

// The current files of a world, behind its Format.
const worldFiles = "data empty gone log old"

// world is a store with current files, of which some have staged changes, and with staged ones.
func world(t *testing.T) (*disk.Disk, *extent.Store) {
	t.Helper()
	d, s := formatted(t, 60)
	must(t, s.Put("data", some(300)), s.Put("empty", nil), s.Put("gone", some(10)), s.Put("old", some(20)), s.Make("log", 3), s.Commit())
	stage(t, s)
	return d, s
}

// stage leaves the next files data, empty, log, moved, new and newlog.
func stage(t *testing.T, s *extent.Store) {
	t.Helper()
	must(t, s.Put("new", some(700)), s.Make("newlog", 2), s.Put("short", some(1)), s.Remove("short"), s.Remove("gone"), s.Rename("old", "moved"))
}

// act is a call, by the code that it answers; bytes that it answers beside an error are told.
type act struct {
	name string
	call func(s *extent.Store) api.Errno
}

func read(b []byte, e api.Errno) api.Errno {
	if e != api.OK && b != nil {
		panic("bytes beside an error")
	}
	return e
}

func get(name string) act {
	return act{"Get(" + name + ")", func(s *extent.Store) api.Errno { return read(s.Get(name)) }}
}

func put(name string, n int) act {
	return act{fmt.Sprintf("Put(%s, %d bytes)", name, n), func(s *extent.Store) api.Errno { return s.Put(name, some(n)) }}
}

func makeLog(name string, sectors int) act {
	return act{fmt.Sprintf("Make(%s, %d)", name, sectors), func(s *extent.Store) api.Errno { return s.Make(name, sectors) }}
}

func remove(name string) act {
	return act{"Remove(" + name + ")", func(s *extent.Store) api.Errno { return s.Remove(name) }}
}

func rename(from, to string) act {
	return act{"Rename(" + from + ", " + to + ")", func(s *extent.Store) api.Errno { return s.Rename(from, to) }}
}

func sector(name string, i int) act {
	return act{fmt.Sprintf("Sector(%s, %d)", name, i), func(s *extent.Store) api.Errno { return read(s.Sector(name, i)) }}
}

func set(name string, i, n int) act {
	return act{fmt.Sprintf("Set(%s, %d, %d bytes)", name, i, n), func(s *extent.Store) api.Errno { return s.Set(name, i, some(n)) }}
}

func commit() act { return act{"Commit", (*extent.Store).Commit} }

func flush() act { return act{"Flush", (*extent.Store).Flush} }

func TestFormat(t *testing.T) {
	for _, n := range []int{1, 2} {
		d := fresh(t, n)
		idle(t, d, "Format", api.ErrFull, func() api.Errno {
			s, e := extent.Format(d)
			if s != nil {
				t.Error("a store beside an error")
			}
			return e
		})
	}
	for _, n := range []int{3, 4, 100, 16384} {
		d, s := formatted(t, n)
		freeIs(t, s, n-3)
		filesAre(t, s)
		countsAre(t, d, 0, 3, 2)
		filesAre(t, opened(t, d))
	}
	got := operations(t, func() (*disk.Disk, func() api.Errno) {
		d := loaded(t, some(256*5))
		return d, func() api.Errno {
			s, e := extent.Format(d)
			if (s == nil) != (e != api.OK) {
				t.Error("a store beside an error")
			}
			return e
		}
	})
	if got != "W2 F W0 W1 F" {
		t.Errorf("Format: %s", got)
	}
}

// Behind Format, no file of an earlier store is left, whatever its generation was.
func TestFormatOfAnotherStore(t *testing.T) {
	for commits := range 4 {
		d, s := formatted(t, 20)
		for i := range commits {
			must(t, s.Put(fmt.Sprint(i), some(300)), s.Commit())
		}
		s, e := extent.Format(d)
		must(t, e)
		freeIs(t, s, 17)
		d.Cut()
		filesAre(t, opened(t, d))
		must(t, s.Put("a", some(1)), s.Commit())
		namesAre(t, opened(t, d), "a")
	}
}

// The operations of each call, in their order. (World's files have the sectors 3 to 9, its directory 10, and what is staged 2 and 11 to 14.)
func TestOperations(t *testing.T) {
	for _, x := range []struct {
		act
		want string
	}{
		{get("data"), "R R"}, {get("empty"), ""}, {get("gone"), "R"}, {get("old"), "R"},
		{put("p", 0), ""}, {put("p", 1), "W15"}, {put("p", 255), "W15"}, {put("p", 256), "W15"}, {put("p", 257), "W15 W16"}, {put("p", 1024), "W15 W16 W17 W18"},
		{makeLog("m", 1), "W15"}, {makeLog("m", 4), "W15 W16 W17 W18"},
		{remove("data"), ""}, {remove("new"), ""}, {rename("data", "p"), ""}, {rename("new", "p"), ""},
		{commit(), "W15 F W0 F"},
		{sector("log", 0), "R"}, {sector("log", 2), "R"},
		{set("log", 0, 256), "W7"}, {set("log", 1, 256), "W8"}, {set("log", 2, 256), "W9"},
		{flush(), "F"},
		{act{"Files, Free, Drop", func(s *extent.Store) api.Errno { s.Files(); s.Free(); s.Drop(); return api.OK }}, ""},
	} {
		got := operations(t, func() (*disk.Disk, func() api.Errno) {
			d, s := world(t)
			return d, func() api.Errno { return x.call(s) }
		})
		if got != x.want {
			t.Errorf("%s: %q, want %q", x.name, got, x.want)
		}
	}
}

// Commit writes a directory of several sectors in their order, ahead of the slot.
func TestOperationsOfALongCommit(t *testing.T) {
	got := operations(t, func() (*disk.Disk, func() api.Errno) {
		d, s := formatted(t, 60)
		for _, f := range ofLength(700) {
			must(t, s.Put(f.name, nil))
		}
		must(t, s.Put("z", some(500)), s.Commit(), s.Put("zz", some(1)), s.Remove("z"), s.Commit())
		return d, s.Commit
	})
	if got != "W3 W4 W5 F W1 F" {
		t.Errorf("Commit: %q", got)
	}
}

// Each call's errors, that which is told first first; none of them performs an operation or changes anything.
func TestErrors(t *testing.T) {
	for _, x := range []struct {
		act
		want api.Errno
	}{
		{get("none"), api.ErrExtentNoFile}, {get(""), api.ErrExtentNoFile}, {get("DATA"), api.ErrExtentNoFile}, {get("dat"), api.ErrExtentNoFile}, {get("data1"), api.ErrExtentNoFile}, {get("log"), api.ErrExtentKind},
		{get("new"), api.ErrExtentNoFile}, {get("newlog"), api.ErrExtentNoFile}, {get("moved"), api.ErrExtentNoFile}, {get("short"), api.ErrExtentNoFile},
		{put("", 1), api.ErrExtentName}, {put("A", 1), api.ErrExtentName}, {put("data", 1), api.ErrExtentThere}, {put("log", 0), api.ErrExtentThere}, {put("new", 1), api.ErrExtentThere}, {put("moved", 1), api.ErrExtentThere},
		{put("p", 45*256+1), api.ErrFull}, {put("p", 5000*256), api.ErrFull}, {put("data", 5000*256), api.ErrExtentThere}, {put("A", 5000*256), api.ErrExtentName},
		{makeLog("A", 1), api.ErrExtentName}, {makeLog("", 0), api.ErrExtentName}, {makeLog("A", -1), api.ErrExtentName},
		{makeLog("m", 0), api.ErrArg}, {makeLog("m", -1), api.ErrArg}, {makeLog("m", 16385), api.ErrArg}, {makeLog("data", 0), api.ErrArg}, {makeLog("data", 16385), api.ErrArg}, {makeLog("m", math.MaxInt), api.ErrArg}, {makeLog("m", math.MinInt), api.ErrArg},
		{makeLog("data", 1), api.ErrExtentThere}, {makeLog("newlog", 1), api.ErrExtentThere}, {makeLog("data", 16384), api.ErrExtentThere},
		{makeLog("m", 46), api.ErrFull}, {makeLog("m", 16384), api.ErrFull},
		{remove("none"), api.ErrExtentNoFile}, {remove(""), api.ErrExtentNoFile}, {remove("A"), api.ErrExtentNoFile}, {remove("gone"), api.ErrExtentNoFile}, {remove("short"), api.ErrExtentNoFile}, {remove("old"), api.ErrExtentNoFile},
		{rename("data", ""), api.ErrExtentName}, {rename("data", "A"), api.ErrExtentName}, {rename("none", "A"), api.ErrExtentName}, {rename("data", longest+"x"), api.ErrExtentName},
		{rename("none", "p"), api.ErrExtentNoFile}, {rename("none", "data"), api.ErrExtentNoFile}, {rename("none", "none"), api.ErrExtentNoFile}, {rename("gone", "p"), api.ErrExtentNoFile}, {rename("old", "p"), api.ErrExtentNoFile}, {rename("A", "p"), api.ErrExtentNoFile}, {rename("", "p"), api.ErrExtentNoFile},
		{rename("data", "log"), api.ErrExtentThere}, {rename("data", "data"), api.ErrExtentThere}, {rename("data", "new"), api.ErrExtentThere}, {rename("new", "data"), api.ErrExtentThere}, {rename("new", "new"), api.ErrExtentThere}, {rename("data", "moved"), api.ErrExtentThere},
		{sector("none", 0), api.ErrExtentNoFile}, {sector("none", -1), api.ErrExtentNoFile}, {sector("newlog", 0), api.ErrExtentNoFile}, {sector("newlog", 9), api.ErrExtentNoFile}, {sector("", 0), api.ErrExtentNoFile},
		{sector("data", 0), api.ErrExtentKind}, {sector("data", 9), api.ErrExtentKind}, {sector("empty", -1), api.ErrExtentKind},
		{sector("log", -1), api.ErrRange}, {sector("log", 3), api.ErrRange}, {sector("log", math.MaxInt), api.ErrRange}, {sector("log", math.MinInt), api.ErrRange},
		{set("none", 0, 256), api.ErrExtentNoFile}, {set("none", 9, 0), api.ErrExtentNoFile}, {set("newlog", 0, 256), api.ErrExtentNoFile}, {set("newlog", 0, 1), api.ErrExtentNoFile},
		{set("data", 0, 256), api.ErrExtentKind}, {set("data", 9, 256), api.ErrExtentKind}, {set("data", 0, 1), api.ErrExtentKind},
		{set("log", -1, 256), api.ErrRange}, {set("log", 3, 256), api.ErrRange}, {set("log", 3, 255), api.ErrRange}, {set("log", -1, 0), api.ErrRange},
		{set("log", 0, 0), api.ErrLength}, {set("log", 0, 255), api.ErrLength}, {set("log", 2, 257), api.ErrLength}, {set("log", 2, 512), api.ErrLength},
	} {
		d, s := world(t)
		free, image := s.Free(), d.Image()
		idle(t, d, x.name, x.want, func() api.Errno { return x.call(s) })
		freeIs(t, s, free)
		namesAre(t, s, worldFiles)
		if !bytes.Equal(d.Image(), image) {
			t.Errorf("%s: the disk has changed", x.name)
		}
		must(t, s.Put("last", some(45*256)), s.Remove("last"), s.Commit()) // just as much is free, and just that is staged
		namesAre(t, s, "data empty log moved new newlog")
	}
}

// Of each call that performs operations: what is behind it, if the power fails at any of them.
func TestDark(t *testing.T) {
	for _, x := range []struct {
		act
		operations int
	}{{get("data"), 2}, {put("p", 600), 3}, {makeLog("m", 2), 2}, {commit(), 4}, {sector("log", 1), 1}, {set("log", 1, 256), 1}, {flush(), 1}} {
		for n := range x.operations {
			d, s := world(t)
			free, counts := s.Free(), d.Counts()
			trip(t, d, n)
			errorIs(t, x.name, x.call(s), api.ErrDark)
			if got := d.Counts(); got.Reads+got.Writes+got.Flushes != counts.Reads+counts.Writes+counts.Flushes+n {
				t.Errorf("%s: %+v behind %+v and %d operations", x.name, got, counts, n)
			}
			staysDark(t, d, s, free)
			if n > 0 {
				d.Cut(slices.Repeat([]bool{true}, 20)...)
			} else {
				d.Cut()
			}
			staysDark(t, d, s, free) // the power is back, but not for this store
			s.Drop()
			staysDark(t, d, s, free+5) // what is staged: three and two sectors
			s.Drop()
			staysDark(t, d, s, free+5)
		}
	}
}

// staysDark holds that a store performs and stages nothing any more, and that it still tells of its files.
func staysDark(t *testing.T, d *disk.Disk, s *extent.Store, free int) {
	t.Helper()
	for _, x := range []act{
		get("data"), get("empty"), get("none"), get("log"), put("p", 1), put("p", 0), put("A", 1), put("data", 1), put("p", 5000*256),
		makeLog("m", 1), makeLog("A", 1), makeLog("m", 0), makeLog("data", 1), makeLog("m", 100), remove("data"), remove("new"), remove("none"),
		rename("data", "p"), rename("new", "p"), rename("data", "A"), rename("none", "p"), rename("data", "log"), commit(),
		sector("log", 0), sector("none", 0), sector("data", 0), sector("log", 9), set("log", 0, 256), set("none", 0, 256), set("data", 0, 256), set("log", 9, 256), set("log", 0, 0), flush(),
	} {
		idle(t, d, x.name+" of a dark store", api.ErrDark, func() api.Errno { return x.call(s) })
	}
	freeIs(t, s, free)
	filesAre(t, s, api.File{Name: "data", Size: 300, Runs: 1}, api.File{Name: "empty"}, api.File{Name: "gone", Size: 10, Runs: 1},
		api.File{Name: "log", Log: true, Size: 3, Runs: 1}, api.File{Name: "old", Size: 20, Runs: 1})
}

// A store learns only from an operation of its own that the power is gone.
func TestDarkIsTheStoresOwn(t *testing.T) {
	d, s := world(t)
	other := opened(t, d)
	trip(t, d, 0)
	for _, x := range []act{get("empty"), put("p", 0), remove("data"), rename("log", "q")} {
		errorIs(t, x.name, x.call(s), api.OK)
	}
	errorIs(t, "Get of no file", get("none").call(s), api.ErrExtentNoFile)
	errorIs(t, "Flush", s.Flush(), api.ErrDark)
	errorIs(t, "Get", get("empty").call(s), api.ErrDark)
	errorIs(t, "Get of the other store", get("empty").call(other), api.OK)
	d.Cut()
	holds(t, other, "data", some(300))
	errorIs(t, "Get", get("data").call(s), api.ErrDark)
	_, e := extent.Open(d)
	errorIs(t, "Open", e, api.OK)
}

// Put holds data of any length, with zeros behind it in its last sector.
func TestPutOfAnyLength(t *testing.T) {
	for _, n := range []int{0, 1, 2, 255, 256, 257, 511, 512, 513, 5 * 256} {
		d, s := formatted(t, 20)
		data, sectors := some(n), (n+255)/256
		must(t, s.Put("a", data))
		countsAre(t, d, 0, 3+sectors, 2)
		freeIs(t, s, 17-sectors)
		must(t, s.Commit())
		filesAre(t, s, api.File{Name: "a", Size: n, Runs: min(sectors, 1)})
		holds(t, s, "a", data)
		countsAre(t, d, sectors, 5+sectors, 4)
		holds(t, opened(t, d), "a", data)
	}
}

func TestMakeOfAnySize(t *testing.T) {
	for _, n := range []int{1, 2, 15, 16} {
		d, s := formatted(t, 20)
		must(t, s.Make("log", n), s.Commit())
		filesAre(t, s, api.File{Name: "log", Log: true, Size: n, Runs: 1})
		freeIs(t, s, 17-n)
		o := opened(t, d)
		for i := range n {
			sectorIs(t, o, "log", i, full(0))
			must(t, o.Set("log", i, full(byte('a'+i))))
		}
		for i := range n {
			sectorIs(t, o, "log", i, full(byte('a'+i)))
			sectorIs(t, s, "log", i, full(byte('a'+i)))
		}
		idle(t, d, "Sector behind the last one", api.ErrRange, func() api.Errno { return sector("log", n).call(o) })
	}
	d, s := formatted(t, 16384)
	for n, want := range map[int]api.Errno{16382: api.ErrFull, 16383: api.ErrFull, 16384: api.ErrFull, 16385: api.ErrArg} {
		idle(t, d, "Make", want, func() api.Errno { return s.Make("log", n) })
	}
	must(t, s.Make("log", 16381))
	freeIs(t, s, 0)
	errorIs(t, "Commit", s.Commit(), api.ErrFull)
	must(t, s.Make("log", 16380), s.Commit())
	filesAre(t, opened(t, d), api.File{Name: "log", Log: true, Size: 16380, Runs: 1})
	idle(t, d, "Put", api.ErrFull, func() api.Errno { return s.Put("a", some(257)) })
	must(t, s.Put("a", some(256)))
	errorIs(t, "Commit", s.Commit(), api.ErrFull)
	freeIs(t, s, 1)
}

// Data as long as a whole disk, and longer.
func TestPutOfAWholeDisk(t *testing.T) {
	d, s := formatted(t, 16384)
	data := some(16380 * 256)
	for _, n := range []int{16381*256 + 1, 16384 * 256, 16384*256 + 1, 1 << 24} {
		idle(t, d, "Put", api.ErrFull, func() api.Errno { return s.Put("a", make([]byte, n)) })
	}
	must(t, s.Put("a", data), s.Commit())
	holds(t, opened(t, d), "a", data)
	freeIs(t, s, 1)
}

func TestNames(t *testing.T) {
	for c := range 256 {
		want := api.ErrExtentName
		if strings.IndexByte("abcdefghijklmnopqrstuvwxyz0123456789.-", byte(c)) >= 0 {
			want = api.OK
		}
		for _, form := range []string{"%", "%b", "b%", "b%b", "%" + longest[1:], longest[1:] + "%"} {
			nameIs(t, strings.ReplaceAll(form, "%", string([]byte{byte(c)})), want)
		}
	}
	for name, want := range map[string]api.Errno{
		"": api.ErrExtentName, "x": api.OK, ".": api.OK, "-": api.OK, "..": api.OK, "wal.1": api.OK, longest: api.OK, longest + "x": api.ErrExtentName,
		"xx" + longest: api.ErrExtentName, strings.Repeat("a", 256): api.ErrExtentName, strings.Repeat("a", 256+5): api.ErrExtentName, "é": api.ErrExtentName, "a b": api.ErrExtentName, "ä": api.ErrExtentName,
	} {
		nameIs(t, name, want)
	}
}

// nameIs gives a file that name, in the three ways there are.
func nameIs(t *testing.T, name string, want api.Errno) {
	t.Helper()
	d, s := formatted(t, 8)
	must(t, s.Put("first", nil))
	errorIs(t, fmt.Sprintf("Put(%q)", name), s.Put(name, []byte("x")), want)
	s.Remove(name)
	errorIs(t, fmt.Sprintf("Make(%q)", name), s.Make(name, 1), want)
	s.Remove(name)
	errorIs(t, fmt.Sprintf("Rename to %q", name), s.Rename("first", name), want)
	must(t, s.Commit())
	if want != api.OK {
		name = "first"
	}
	namesAre(t, s, name)
	namesAre(t, opened(t, d), name)
}

// hundreds are that many files without bytes, staged.
func hundreds(t *testing.T, s *extent.Store, n int) {
	t.Helper()
	for i := range n {
		must(t, s.Put(fmt.Sprintf("%032d", i), nil))
	}
}

func TestMostFiles(t *testing.T) {
	d, s := formatted(t, 200)
	hundreds(t, s, 255)
	must(t, s.Make("log", 1))
	tooMany := func() {
		t.Helper()
		idle(t, d, "Put of one more", api.ErrExtentMany, func() api.Errno { return s.Put("more", nil) })
		idle(t, d, "Make of one more", api.ErrExtentMany, func() api.Errno { return s.Make("more", 1) })
		// what is told ahead of that, and behind it
		idle(t, d, "Put of what is there", api.ErrExtentThere, func() api.Errno { return s.Put("log", nil) })
		idle(t, d, "Make of what is there", api.ErrExtentThere, func() api.Errno { return s.Make("log", 1) })
		idle(t, d, "Put", api.ErrExtentName, func() api.Errno { return s.Put("ONE", nil) })
		idle(t, d, "Make", api.ErrArg, func() api.Errno { return s.Make("more", 0) })
		idle(t, d, "Put of more than there is", api.ErrExtentMany, func() api.Errno { return s.Put("more", some(256*1000)) })
		idle(t, d, "Make of more than there is", api.ErrExtentMany, func() api.Errno { return s.Make("more", 1000) })
	}
	tooMany()
	must(t, s.Commit())
	tooMany()
	if n := len(opened(t, d).Files()); n != 256 {
		t.Errorf("%d files", n)
	}
	must(t, s.Rename("log", "gol"), s.Rename("gol", "log"), s.Remove("log"), s.Put("one", some(300)))
	idle(t, d, "Make", api.ErrExtentMany, func() api.Errno { return s.Make("log", 1) })
	must(t, s.Remove("one"), s.Make("log", 1), s.Remove(fmt.Sprintf("%032d", 7)), s.Put("one", nil))
	tooMany() // the next files count, not the current ones
	must(t, s.Commit())
	s = opened(t, d)
	tooMany()
}

// sieve is a disk with so many free sectors, of which no two lie together, and with so many files, of which some have a sector. One that is left out makes three free ones lie together.
func sieve(t *testing.T, free, files, withSector int, leftOut ...int) (*disk.Disk, *extent.Store) {
	t.Helper()
	home := 2*free + 2
	size := (2 + 44*files + 4*(withSector-len(leftOut)) + 255) / 256
	var l []entry
	for i := range files {
		f := entry{name: fmt.Sprintf("%032d", i)}
		switch {
		case slices.Contains(leftOut, i):
		case i < free:
			f.size, f.runs = 1, []span{{2 + 2*i, 1}}
		case i < withSector:
			f.size, f.runs = 1, []span{{home + size + i - free, 1}}
		}
		l = append(l, f)
	}
	image := make([]byte, 256*(home+size+withSector-free))
	rootOf(1, directoryOf(l...), span{home, size}).lay(image, 0)
	d := loaded(t, image)
	s := opened(t, d)
	freeIs(t, s, free+len(leftOut))
	return d, s
}

// A place is of 48 runs at most, though more may be free.
func TestMostRuns(t *testing.T) {
	d, s := sieve(t, 80, 80, 80)
	for range 2 { // also behind a Drop
		for _, x := range []act{put("p", 48*256+1), put("p", 80*256), makeLog("p", 49), makeLog("p", 80), put("p", 80*256+1), makeLog("p", 81)} {
			idle(t, d, x.name, api.ErrFull, func() api.Errno { return x.call(s) })
		}
		must(t, s.Put("p", some(48*256)))
		freeIs(t, s, 32)
		s.Drop()
		must(t, s.Make("p", 48))
		freeIs(t, s, 32)
		s.Drop()
	}
	must(t, s.Put("p", some(48*256)), s.Commit())
	f := opened(t, d).Files()
	if p := f[len(f)-1]; p != (api.File{Name: "p", Size: 48 * 256, Runs: 48}) {
		t.Errorf("%+v", p)
	}
	holds(t, opened(t, d), "p", some(48*256))

	d, s = sieve(t, 80, 80, 80, 2)
	idle(t, d, "Make", api.ErrFull, func() api.Errno { return s.Make("log", 51) })
	must(t, s.Make("log", 50), s.Commit())
	f = opened(t, d).Files()
	if log := f[len(f)-1]; log != (api.File{Name: "log", Log: true, Size: 50, Runs: 48}) {
		t.Errorf("%+v", log)
	}
}

// A directory is of 48 runs at most.
func TestMostRunsOfADirectory(t *testing.T) {
	d, s := sieve(t, 60, 256, 256) // its directory is of 49 sectors
	must(t, s.Rename(fmt.Sprintf("%032d", 255), "z"+strings.Repeat("-", 31)))
	idle(t, d, "Commit", api.ErrFull, s.Commit)
	errorIs(t, "Remove of what was renamed", s.Remove("z"+strings.Repeat("-", 31)), api.ErrExtentNoFile)
	must(t, s.Remove(fmt.Sprintf("%032d", 255))) // 48
	errorIs(t, "Commit", s.Commit(), api.OK)
	freeIs(t, s, 60-48+49+1)
	if n := len(opened(t, d).Files()); n != 255 {
		t.Errorf("%d files", n)
	}
}

// The lowest free sectors are taken.
func TestLowestSectors(t *testing.T) {
	d, s := formatted(t, 30)
	must(t, s.Make("a", 1), s.Make("b", 2), s.Make("c", 3), s.Make("d", 1), s.Commit()) // 3, 4 5, 6 7 8, 9, and the directory 10
	must(t, s.Remove("b"), s.Remove("d"), s.Commit())                                   // the directory 2
	must(t, d.Flush(), s.Make("e", 5))
	pendingIs(t, d, 4, 5, 9, 10, 11)
	must(t, s.Remove("e"), s.Make("f", 1), s.Make("g", 2))
	pendingIs(t, d, 4, 5, 9, 10, 11, 4, 5, 9)
	must(t, s.Commit())
	filesAre(t, s, api.File{Name: "a", Log: true, Size: 1, Runs: 1}, api.File{Name: "c", Log: true, Size: 3, Runs: 1}, api.File{Name: "f", Log: true, Size: 1, Runs: 1}, api.File{Name: "g", Log: true, Size: 2, Runs: 2})
	filesAre(t, opened(t, d), s.Files()...)
}

// scenario is some changes of a store with the file a of 1 sector and the log b of 2, and what comes of them.
type scenario struct {
	steps string
	next  string // names, each with its size
	taken int    // sectors, ahead of the commit
	freed int    // by the commit
}

var scenarios = []scenario{
	{"", "a:10 b:2", 0, 0},
	{"-a", "b:2", 0, 1}, {"-b", "a:10", 0, 2}, {"-a -b", "", 0, 3}, {"-a !-a", "b:2", 0, 1},
	{"+c", "a:10 b:2 c:600", 3, 0}, {"+c -c", "a:10 b:2", 0, 0}, {"+c -c +c", "a:10 b:2 c:600", 3, 0}, {"+c !+c", "a:10 b:2 c:600", 3, 0}, {"+c -c !-c", "a:10 b:2", 0, 0},
	{"*l", "a:10 b:2 l:4", 4, 0}, {"*l -l", "a:10 b:2", 0, 0}, {"*l +c -l +d", "a:10 b:2 c:600 d:600", 6, 0},
	{"a>c", "b:2 c:10", 0, 0}, {"a>c !a>d", "b:2 c:10", 0, 0}, {"a>c !-a", "b:2 c:10", 0, 0}, {"a>c c>d", "b:2 d:10", 0, 0}, {"a>c c>a", "a:10 b:2", 0, 0},
	{"a>c -c", "b:2", 0, 1}, {"a>c c>d -d", "b:2", 0, 1}, {"a>c -c !-c", "b:2", 0, 1}, {"a>c -c !c>d", "b:2", 0, 1},
	{"+c c>d", "a:10 b:2 d:600", 3, 0}, {"+c c>d -d", "a:10 b:2", 0, 0}, {"+c c>d !-c", "a:10 b:2 d:600", 3, 0}, {"+c c>d +c", "a:10 b:2 c:600 d:600", 6, 0},
	{"-a +a", "a:600 b:2", 3, 1}, {"-a +a -a", "b:2", 0, 1}, {"-a +a -a +a", "a:600 b:2", 3, 1}, {"-a *a", "a:4 b:2", 4, 1}, {"-b *b", "a:10 b:4", 4, 2}, {"-b +b", "a:10 b:600", 3, 2},
	{"a>c +a", "a:600 b:2 c:10", 3, 0}, {"a>c +a -c", "a:600 b:2", 3, 1}, {"a>c +a -a c>a", "a:10 b:2", 0, 0}, {"a>c !c>b", "b:2 c:10", 0, 0},
	{"-a b>a", "a:2", 0, 1}, {"-b a>b", "b:10", 0, 2}, {"a>t b>a t>b", "a:2 b:10", 0, 0}, {"a>t b>a t>b -a", "b:10", 0, 2}, {"b>c *b", "a:10 b:4 c:2", 4, 0},
	{"-a +a a>c -b c>b", "b:600", 3, 3}, {"!a>b !a>a !-x !x>y", "a:10 b:2", 0, 0},
}

// steps are the calls of a scenario: +x is a Put, *x a Make, -x a Remove, x>y a Rename; ! ahead of one says that it is refused.
func (x scenario) do(t *testing.T, s *extent.Store) {
	t.Helper()
	for _, step := range strings.Fields(x.steps) {
		text, refused := strings.CutPrefix(step, "!")
		var e api.Errno
		switch from, to, isRename := strings.Cut(text, ">"); {
		case isRename:
			e = s.Rename(from, to)
		case text[0] == '+':
			e = s.Put(text[1:], some(600))
		case text[0] == '*':
			e = s.Make(text[1:], 4)
		default:
			e = s.Remove(text[1:])
		}
		if (e != api.OK) != refused {
			t.Errorf("%s: %s: %v", x.steps, step, e)
		}
	}
}

// sized are the files as a scenario tells them.
func sized(s *extent.Store) string {
	var l []string
	for _, f := range s.Files() {
		l = append(l, fmt.Sprintf("%s:%d", f.Name, f.Size))
	}
	return strings.Join(l, " ")
}

func TestScenarios(t *testing.T) {
	for _, x := range scenarios {
		d, s := formatted(t, 40)
		must(t, s.Put("a", some(10)), s.Make("b", 2), s.Commit())
		for range 2 { // what is dropped leaves nothing behind
			x.do(t, s)
			if got := sized(s); got != "a:10 b:2" {
				t.Errorf("%s: staged, and the files are %s", x.steps, got)
			}
			freeIs(t, s, 34-x.taken)
			holds(t, s, "a", some(10))
			sectorIs(t, s, "b", 1, full(0))
			s.Drop()
			freeIs(t, s, 34)
		}
		must(t, s.Commit())
		if got := sized(s); got != "a:10 b:2" {
			t.Errorf("%s: dropped, and the files are %s", x.steps, got)
		}
		x.do(t, s)
		must(t, s.Commit())
		freeIs(t, s, 34-x.taken+x.freed)
		s.Drop() // nothing is staged any more
		if got := sized(s); got != x.next {
			t.Errorf("%s: the files are %s, want %s", x.steps, got, x.next)
		}
		freeIs(t, s, 34-x.taken+x.freed)
		d.Cut()
		o := opened(t, d)
		filesAre(t, o, s.Files()...)
		for _, f := range o.Files() {
			if !f.Log {
				holds(t, o, f.Name, some(f.Size))
			}
		}
	}
}

// What is staged is not to be seen by Get, Sector and Set.
func TestCurrentFilesBesideStagedOnes(t *testing.T) {
	_, s := formatted(t, 40)
	must(t, s.Put("a", some(10)), s.Put("b", some(20)), s.Make("log", 3), s.Commit(), s.Set("log", 2, full('x')))
	must(t, s.Remove("a"), s.Put("a", some(30)), s.Rename("b", "c"), s.Remove("log"), s.Make("log", 1))
	holds(t, s, "a", some(10))
	holds(t, s, "b", some(20))
	lacks(t, s, "c", api.ErrExtentNoFile)
	sectorIs(t, s, "log", 2, full('x'))
	must(t, s.Set("log", 2, full('y')))
	sectorIs(t, s, "log", 2, full('y'))
	must(t, s.Commit())
	holds(t, s, "a", some(30))
	lacks(t, s, "b", api.ErrExtentNoFile)
	holds(t, s, "c", some(20))
	sectorIs(t, s, "log", 0, full(0))
	errorIs(t, "Sector", sector("log", 2).call(s), api.ErrRange)

	must(t, s.Rename("log", "gol"), s.Set("log", 0, full('z')))
	errorIs(t, "Sector", sector("gol", 0).call(s), api.ErrExtentNoFile)
	errorIs(t, "Set", set("gol", 0, 256).call(s), api.ErrExtentNoFile)
	must(t, s.Put("log", some(5)))
	lacks(t, s, "log", api.ErrExtentKind)
	must(t, s.Commit())
	sectorIs(t, s, "gol", 0, full('z'))
	holds(t, s, "log", some(5))
	errorIs(t, "Sector", sector("log", 0).call(s), api.ErrExtentKind)
}

// A commit that finds no room forgets what was staged; what is current stays.
func TestCommitWithoutRoom(t *testing.T) {
	d, s := formatted(t, 9)
	must(t, s.Put("a", some(300)), s.Commit())
	must(t, s.Remove("a"), s.Put("b", some(300)), s.Rename("b", "c"), s.Make("log", 2))
	freeIs(t, s, 0)
	idle(t, d, "Commit", api.ErrFull, s.Commit)
	freeIs(t, s, 4)
	filesAre(t, s, api.File{Name: "a", Size: 300, Runs: 1})
	for _, x := range []act{remove("b"), remove("c"), remove("log")} {
		errorIs(t, x.name, x.call(s), api.ErrExtentNoFile)
	}
	errorIs(t, "Put of a", s.Put("a", nil), api.ErrExtentThere)
	holds(t, opened(t, d), "a", some(300))
	must(t, s.Put("b", some(3*256)), s.Commit())
	filesAre(t, opened(t, d), api.File{Name: "a", Size: 300, Runs: 1}, api.File{Name: "b", Size: 768, Runs: 2})
	freeIs(t, s, 1)

	// The sectors of the old directory are not free yet.
	_, s = formatted(t, 3)
	errorIs(t, "Commit", s.Commit(), api.ErrFull)
	d, s = formatted(t, 4)
	must(t, s.Commit(), s.Commit(), s.Commit())
	must(t, s.Put("a", some(1)))
	errorIs(t, "Commit", s.Commit(), api.ErrFull)
	must(t, s.Put("a", nil), s.Commit())
	filesAre(t, opened(t, d), api.File{Name: "a"})
	freeIs(t, s, 1)
}

// A commit with nothing staged moves the directory and counts, too.
func TestCommitOfNothing(t *testing.T) {
	d, s := formatted(t, 8)
	for i := range 10 {
		number, home := 1-i%2, 3-i%2
		must(t, s.Commit())
		countsAre(t, d, 0, 5+2*i, 4+2*i)
		freeIs(t, s, 5)
		if got := string(d.Image()[256*number:][:256]); got != rootOf(uint64(i+2), "\x00\x00", span{home, 1}).slot() {
			t.Errorf("slot %d: %x", number, got)
		}
	}
}

// What is written to a log is lost without a flush; Flush, and a commit, keep it.
func TestWhatAFlushKeeps(t *testing.T) {
	for name, last := range map[string]func(s *extent.Store) api.Errno{"nothing": nil, "Flush": (*extent.Store).Flush, "Commit": (*extent.Store).Commit} {
		d, s := formatted(t, 10)
		must(t, s.Make("log", 2), s.Commit(), s.Set("log", 0, full('a')), s.Flush(), s.Set("log", 0, full('b')), s.Set("log", 1, full('c')))
		zero, one := full('a'), full(0)
		if last != nil {
			must(t, last(s))
			zero, one = full('b'), full('c')
		}
		d.Cut()
		for _, s := range []*extent.Store{s, opened(t, d)} {
			if b, _ := s.Sector("log", 0); !bytes.Equal(b, zero) {
				t.Errorf("%s: sector 0 is %.4x", name, b)
			}
			if b, _ := s.Sector("log", 1); !bytes.Equal(b, one) {
				t.Errorf("%s: sector 1 is %.4x", name, b)
			}
		}
	}
}

// Get tells data that is not what was put, by its sum; bytes behind the last one are none of it.
func TestGetOfChangedData(t *testing.T) {
	for at := range 512 {
		d, s := formatted(t, 10)
		must(t, s.Put("a", some(300)), s.Commit())
		b := d.Image()[256*(3+at/256):][:256]
		b[at%256] ^= 1
		must(t, d.Write(3+at/256, b))
		got, e := s.Get("a")
		if at >= 300 {
			if e != api.OK || !bytes.Equal(got, some(300)) {
				t.Errorf("byte %d: %v", at, e)
			}
		} else if e != api.ErrExtentForm || got != nil {
			t.Errorf("byte %d: %v", at, e)
		}
		countsAre(t, d, 2, 8, 4)
	}
	image := make([]byte, 256*6)
	rootOf(1, directoryOf(entry{name: "a", sum: 1}, entry{name: "b"}, entry{name: "c", size: 1, sum: 2, runs: []span{{5, 1}}}), span{2, 1}).lay(image, 0)
	d := loaded(t, image)
	s := opened(t, d)
	idle(t, d, "Get of no bytes with a sum", api.ErrExtentForm, func() api.Errno { return get("a").call(s) })
	idle(t, d, "Get of no bytes", api.OK, func() api.Errno { return get("b").call(s) })
	lacks(t, s, "c", api.ErrExtentForm)
	must(t, s.Rename("a", "x"), s.Commit()) // the sum goes with the file
	lacks(t, opened(t, d), "x", api.ErrExtentForm)
}

// Bytes that are handed in, or come out, are the caller's; what lies behind them is left alone.
func TestBytesAreTheCallers(t *testing.T) {
	d, s := formatted(t, 20)
	long := some(1000)
	data := long[:300]
	must(t, s.Put("a", data))
	if !bytes.Equal(long, some(1000)) {
		t.Error("Put has changed its bytes, or what is behind them")
	}
	spoil(long)
	must(t, s.Make("log", 2), s.Commit())
	holds(t, s, "a", some(1000)[:300])

	row := slices.Concat(full('x'), full('y'))
	must(t, s.Set("log", 0, row[:256]))
	if !bytes.Equal(row, slices.Concat(full('x'), full('y'))) {
		t.Error("Set has changed its bytes, or what is behind them")
	}
	spoil(row)
	sectorIs(t, s, "log", 0, full('x'))
	sectorIs(t, s, "log", 1, full(0))
	must(t, s.Flush())

	image, dataSum := d.Image(), checksum(string(some(1000)[:300]))
	for range 2 {
		one, _ := s.Get("a")
		two, _ := s.Get("a")
		spoil(one[:cap(one)])
		if checksum(string(two)) != dataSum {
			t.Error("two answers of Get share their bytes")
		}
		one, _ = s.Sector("log", 0)
		two, _ = s.Sector("log", 0)
		spoil(one[:cap(one)])
		if !bytes.Equal(two, full('x')) {
			t.Error("two answers of Sector share their bytes")
		}
		files, again := s.Files(), s.Files()
		_ = append(files[:1], api.File{Name: "z"})
		files[0].Name, files[0].Size = "x", 7
		filesAre(t, s, again...)
		if again[0].Name != "a" || again[1].Name != "log" {
			t.Errorf("two answers of Files share them: %+v", again)
		}
	}
	must(t, s.Flush())
	if !bytes.Equal(d.Image(), image) {
		t.Error("the disk has changed")
	}
	holds(t, opened(t, d), "a", some(1000)[:300])
}

// Stores of several disks have nothing in common.
func TestStoresAreIndependent(t *testing.T) {
	d, one := formatted(t, 20)
	_, two := formatted(t, 20)
	must(t, one.Put("a", some(10)), two.Make("a", 3), one.Commit())
	filesAre(t, two)
	freeIs(t, two, 14)
	trip(t, d, 0)
	errorIs(t, "Flush", one.Flush(), api.ErrDark)
	must(t, two.Commit(), two.Flush())
	filesAre(t, two, api.File{Name: "a", Log: true, Size: 3, Runs: 1})
	filesAre(t, one, api.File{Name: "a", Size: 10, Runs: 1})
}
