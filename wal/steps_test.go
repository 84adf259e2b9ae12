package wal

import (
	"errors"
	"math"
	"testing"

	"barograph/api"
	"barograph/disk"
	"barograph/extent"
)

// store is one with these files; a name that ends with ! is that of a log.
func store(t *testing.T, files map[string][]byte) *extent.Store {
	t.Helper()
	d, _ := disk.New(3000)
	s, e := extent.Format(d)
	if e != api.OK {
		t.Fatal(e)
	}
	for name, data := range files {
		if n := len(name) - 1; name[n] == '!' {
			e = s.Make(name[:n], api.Segment)
		} else {
			e = s.Put(name, data)
		}
		if e != api.OK {
			t.Fatal(e)
		}
	}
	if e := s.Commit(); e != api.OK {
		t.Fatal(e)
	}
	return s
}

// tells holds an error against its text and the number that it wraps.
func tells(t *testing.T, err error, want string, errno api.Errno) {
	t.Helper()
	if err == nil || err.Error() != want+": "+errno.Error() || !errors.Is(err, errno) {
		t.Errorf("%v, want %s: %v", err, want, errno)
		return
	}
	var f *failure
	var inner api.Errno
	if !errors.As(err, &f) || f.step != want || !errors.As(err, &inner) || inner != errno || errors.Unwrap(err) != error(errno) {
		t.Errorf("%s: what it wraps is %v", want, errors.Unwrap(err))
	}
}

// The chapter asks for it: errors of the store are wrapped, with the step that failed.
func TestErrorsOfReadingTellTheirStep(t *testing.T) {
	for _, c := range []struct {
		files map[string][]byte
		want  string
		errno api.Errno
	}{
		{nil, "read wal", api.ErrExtentNoFile},
		{map[string][]byte{"wal!": nil}, "read wal", api.ErrExtentKind},
		{map[string][]byte{"wal": {1, 2, 3}}, "decode wal", api.ErrWalForm},
		{map[string][]byte{"wal": encode([]segment{{7, open}})}, "read wal.7", api.ErrExtentNoFile},
		{map[string][]byte{"wal": encode([]segment{{7, 1}}), "wal.7": nil}, "read wal.7", api.ErrExtentKind},
		{map[string][]byte{"wal": encode([]segment{{6, 0}, {7, 1}}), "wal.7!": nil}, "scan wal.7", api.ErrWalForm},
	} {
		w := &Wal{store: store(t, c.files)}
		l, err := w.read()
		tells(t, err, c.want, c.errno)
		if l != nil || len(w.segments) > 0 || w.records > 0 {
			t.Errorf("%s: %d records, %d segments", c.want, len(l), len(w.segments))
		}
	}
}

// So it is with the steps by which a segment is begun.
func TestErrorsOfBeginningTellTheirStep(t *testing.T) {
	files := map[string][]byte{"wal": nil, "wal.7!": nil}
	remove := func(name string) func(s *extent.Store) { return func(s *extent.Store) { s.Remove(name) } }
	put := func(name string, n int) func(s *extent.Store) {
		return func(s *extent.Store) { s.Put(name, make([]byte, n)) }
	}
	leave := func(n int) func(s *extent.Store) {
		return func(s *extent.Store) { s.Put("filler", make([]byte, 256*(s.Free()-n))) }
	}
	many := make([]segment, math.MaxUint16)
	for i := range many {
		many[i].number = uint32(i + 1)
	}
	for _, c := range []struct {
		stage    func(s *extent.Store)
		segments []segment
		want     string
		errno    api.Errno
	}{
		{remove("wal.7"), []segment{{7, open}}, "remove wal.7", api.ErrExtentNoFile},
		{remove("wal"), []segment{{7, open}}, "remove wal", api.ErrExtentNoFile},
		{leave(0), []segment{{7, open}}, "put wal", api.ErrFull},
		{put("wal.8", 0), []segment{{7, open}}, "make wal.8", api.ErrExtentThere},
		{leave(32), []segment{{7, open}}, "make wal.8", api.ErrFull},
		{leave(33), []segment{{7, open}}, "commit", api.ErrFull},
		{leave(33), nil, "commit", api.ErrFull},
		{put("other", 1), []segment{{1 << 31, open}}, "number a segment", api.ErrFull},
		{put("other", 1), many, "count the segments", api.ErrFull},
	} {
		s := store(t, files)
		free := s.Free()
		c.stage(s)
		w := &Wal{store: s, segments: c.segments}
		tells(t, w.begin(), c.want, c.errno)
		if s.Free() != free || len(w.segments) != len(c.segments) {
			t.Errorf("%s: %d are free, of %d; %d segments", c.want, s.Free(), free, len(w.segments))
		}
	}
}

func TestErrorsOfAppendingTellTheirStep(t *testing.T) {
	w := &Wal{store: store(t, nil), segments: []segment{{7, open}}}
	tells(t, w.add(nil), "write wal.7", api.ErrExtentNoFile)
	tells(t, w.add(make([]byte, 7681)), "split", api.ErrFrameLong)
	w.used = 32
	tells(t, w.add(nil), "remove wal", api.ErrExtentNoFile)
}

func TestErrorsOfRemovingTheOldLogTellTheirStep(t *testing.T) {
	files := map[string][]byte{"wal": encode([]segment{{7, open}}), "wal.7!": nil, "wal.x": nil}
	for _, name := range []string{"wal", "wal.7", "wal.x"} {
		s := store(t, files)
		s.Remove(name)
		_, err := removeOld(s)
		tells(t, err, "remove "+name, api.ErrExtentNoFile)
	}
	l, err := removeOld(store(t, files))
	if err != nil || len(l) != 1 || l[0] != (segment{7, open}) {
		t.Errorf("%v, %v", l, err)
	}
}

// How an error is told: the number in the midst of it, and ErrFull in the place of ErrExtentMany.
func TestTold(t *testing.T) {
	for e, want := range map[api.Errno]api.Errno{
		api.OK: api.OK, api.ErrFull: api.ErrFull, api.ErrDark: api.ErrDark, api.ErrExtentMany: api.ErrFull, api.ErrExtentThere: api.ErrExtentThere,
		api.ErrExtentNoFile: api.ErrExtentNoFile, api.ErrRange: api.ErrRange, api.ErrExtentKind: api.ErrExtentKind,
	} {
		if got := told(failed("a step", e)); got != want {
			t.Errorf("%v is told as %v, want %v", e, got, want)
		}
		if e == api.OK {
			continue
		}
		if got := told(&failure{"around it", failed("a step", e)}); got != want {
			t.Errorf("%v, wrapped twice, is told as %v, want %v", e, got, want)
		}
	}
	if failed("a step", api.OK) != nil {
		t.Error("what went well is an error")
	}
}
