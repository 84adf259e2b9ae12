package extent_test

import (
	"bytes"
	"slices"
	"strconv"
	"strings"
	"testing"

	"barograph/api"
	"barograph/disk"
	"barograph/extent"
)

// The calls have these signatures.
var (
	_ func(*disk.Disk) (*extent.Store, api.Errno)          = extent.Format
	_ func(*disk.Disk) (*extent.Store, api.Errno)          = extent.Open
	_ func(*extent.Store) []api.File                       = (*extent.Store).Files
	_ func(*extent.Store) int                              = (*extent.Store).Free
	_ func(*extent.Store, string) ([]byte, api.Errno)      = (*extent.Store).Get
	_ func(*extent.Store, string, []byte) api.Errno        = (*extent.Store).Put
	_ func(*extent.Store, string, int) api.Errno           = (*extent.Store).Make
	_ func(*extent.Store, string) api.Errno                = (*extent.Store).Remove
	_ func(*extent.Store, string, string) api.Errno        = (*extent.Store).Rename
	_ func(*extent.Store) api.Errno                        = (*extent.Store).Commit
	_ func(*extent.Store)                                  = (*extent.Store).Drop
	_ func(*extent.Store, string, int) ([]byte, api.Errno) = (*extent.Store).Sector
	_ func(*extent.Store, string, int, []byte) api.Errno   = (*extent.Store).Set
	_ func(*extent.Store) api.Errno                        = (*extent.Store).Flush
)

// longest is a name of as many bytes as one may have.
const longest = "abcdefghijklmnopqrstuvwxyz-01.89"

// some are n bytes without a pattern.
func some(n int) []byte {
	x := dice(n)
	return x.bytes(n)
}

// full is a sector of one byte.
func full(c byte) []byte { return bytes.Repeat([]byte{c}, 256) }

func fresh(t *testing.T, n int) *disk.Disk {
	t.Helper()
	d, e := disk.New(n)
	if d == nil || e != api.OK {
		t.Fatalf("New(%d): %v", n, e)
	}
	return d
}

func loaded(t *testing.T, image []byte) *disk.Disk {
	t.Helper()
	d, e := disk.Load(image)
	if d == nil || e != api.OK {
		t.Fatalf("Load of %d bytes: %v", len(image), e)
	}
	return d
}

func formatted(t *testing.T, n int) (*disk.Disk, *extent.Store) {
	t.Helper()
	d := fresh(t, n)
	s, e := extent.Format(d)
	if s == nil || e != api.OK {
		t.Fatalf("Format of %d sectors: %v", n, e)
	}
	return d, s
}

func opened(t *testing.T, d *disk.Disk) *extent.Store {
	t.Helper()
	s, e := extent.Open(d)
	if s == nil || e != api.OK {
		t.Fatalf("Open: %v", e)
	}
	return s
}

func trip(t *testing.T, d *disk.Disk, n int) {
	t.Helper()
	if e := d.Trip(n); e != api.OK {
		t.Fatalf("Trip(%d): %v", n, e)
	}
}

func errorIs(t *testing.T, what string, got, want api.Errno) {
	t.Helper()
	if got != want {
		t.Errorf("%s: %v, want %v", what, got, want)
	}
}

// must holds what a test needs to go on.
func must(t *testing.T, steps ...api.Errno) {
	t.Helper()
	for i, e := range steps {
		if e != api.OK {
			t.Fatalf("step %d: %v", i, e)
		}
	}
}

func countsAre(t *testing.T, d *disk.Disk, reads, writes, flushes int) {
	t.Helper()
	if got := d.Counts(); got != (api.Counts{Reads: reads, Writes: writes, Flushes: flushes}) {
		t.Errorf("%+v, want %d reads, %d writes, %d flushes", got, reads, writes, flushes)
	}
}

func pendingIs(t *testing.T, d *disk.Disk, want ...int) {
	t.Helper()
	if got := d.Pending(); !slices.Equal(got, want) {
		t.Errorf("Pending %v, want %v", got, want)
	}
}

func freeIs(t *testing.T, s *extent.Store, want int) {
	t.Helper()
	if got := s.Free(); got != want {
		t.Errorf("Free %d, want %d", got, want)
	}
}

func filesAre(t *testing.T, s *extent.Store, want ...api.File) {
	t.Helper()
	if got := s.Files(); !slices.Equal(got, want) {
		t.Errorf("Files %+v, want %+v", got, want)
	}
}

// namesAre is for where the sizes do not matter.
func namesAre(t *testing.T, s *extent.Store, want string) {
	t.Helper()
	var names []string
	for _, f := range s.Files() {
		names = append(names, f.Name)
	}
	if got := strings.Join(names, " "); got != want {
		t.Errorf("the files are %q, want %q", got, want)
	}
}

func holds(t *testing.T, s *extent.Store, name string, want []byte) {
	t.Helper()
	if got, e := s.Get(name); !bytes.Equal(got, want) || e != api.OK {
		t.Errorf("Get(%s): %d bytes, %v; want %d bytes", name, len(got), e, len(want))
	}
}

func lacks(t *testing.T, s *extent.Store, name string, want api.Errno) {
	t.Helper()
	if got, e := s.Get(name); got != nil || e != want {
		t.Errorf("Get(%s): %d bytes, %v; want %v", name, len(got), e, want)
	}
}

func sectorIs(t *testing.T, s *extent.Store, name string, i int, want []byte) {
	t.Helper()
	if got, e := s.Sector(name, i); !bytes.Equal(got, want) || e != api.OK {
		t.Errorf("Sector(%s, %d): %.4x.. (%d bytes), %v; want %.4x..", name, i, got, len(got), e, want)
	}
}

// idle holds that a call performs no operation and answers that.
func idle(t *testing.T, d *disk.Disk, what string, want api.Errno, call func() api.Errno) {
	t.Helper()
	counts, pending, dark := d.Counts(), d.Pending(), d.Dark()
	errorIs(t, what, call(), want)
	if d.Counts() != counts || !slices.Equal(d.Pending(), pending) || d.Dark() != dark {
		t.Errorf("%s: operations %+v, pending %v; before %+v, %v", what, d.Counts(), d.Pending(), counts, pending)
	}
}

// operation is what has been done between two counts.
func operation(t *testing.T, d *disk.Disk, before, after api.Counts) string {
	t.Helper()
	switch after {
	case api.Counts{Reads: before.Reads + 1, Writes: before.Writes, Flushes: before.Flushes}:
		return "R"
	case api.Counts{Reads: before.Reads, Writes: before.Writes + 1, Flushes: before.Flushes}:
		pending := d.Pending()
		return "W" + strconv.Itoa(pending[len(pending)-1])
	case api.Counts{Reads: before.Reads, Writes: before.Writes, Flushes: before.Flushes + 1}:
		return "F"
	}
	t.Fatalf("not one operation: %+v, %+v", before, after)
	return ""
}

// operations are those of an act, in their order: R, F, or W and the sector. The power fails behind one more of them each time, at which the act must answer that.
func operations(t *testing.T, prepare func() (*disk.Disk, func() api.Errno)) string {
	t.Helper()
	var l []string
	var before api.Counts
	for n := 0; ; n++ {
		d, act := prepare()
		if n == 0 {
			before = d.Counts()
		}
		trip(t, d, n)
		e := act()
		if n > 0 {
			l = append(l, operation(t, d, before, d.Counts()))
			before = d.Counts()
		}
		if !d.Dark() {
			errorIs(t, "the act", e, api.OK)
			d.Cut()
			return strings.Join(l, " ")
		}
		errorIs(t, "the act in the dark", e, api.ErrDark)
	}
}

func TestExamples(t *testing.T) {
	d, s := formatted(t, 8)
	countsAre(t, d, 0, 3, 2)
	freeIs(t, s, 5)
	data := some(300)
	errorIs(t, "Put(a)", s.Put("a", data), api.OK)
	countsAre(t, d, 0, 5, 2)
	pendingIs(t, d, 3, 4)
	freeIs(t, s, 3)
	filesAre(t, s)
	errorIs(t, "Commit", s.Commit(), api.OK)
	filesAre(t, s, api.File{Name: "a", Size: 300, Runs: 1})
	freeIs(t, s, 3)
	holds(t, s, "a", data)

	errorIs(t, "Put(b)", s.Put("b", some(600)), api.OK)
	pendingIs(t, d, 2, 6, 7)
	freeIs(t, s, 0)
	errorIs(t, "Commit", s.Commit(), api.ErrFull)
	filesAre(t, s, api.File{Name: "a", Size: 300, Runs: 1})
	freeIs(t, s, 3)
	errorIs(t, "Put(a)", s.Put("a", []byte("x")), api.ErrExtentThere)
	errorIs(t, "Put(A)", s.Put("A", []byte("x")), api.ErrExtentName)
	errorIs(t, "Remove(a)", s.Remove("a"), api.OK)
	errorIs(t, "Put(a)", s.Put("a", []byte("ten bytes.")), api.OK)
	errorIs(t, "Commit", s.Commit(), api.OK)
	filesAre(t, s, api.File{Name: "a", Size: 10, Runs: 1})
	holds(t, s, "a", []byte("ten bytes."))

	_, s = formatted(t, 8)
	errorIs(t, "Make(log)", s.Make("log", 2), api.OK)
	errorIs(t, "Commit", s.Commit(), api.OK)
	errorIs(t, "Set(log, 1)", s.Set("log", 1, full('x')), api.OK)
	sectorIs(t, s, "log", 1, full('x'))
	lacks(t, s, "log", api.ErrExtentKind)
	o, e := extent.Open(fresh(t, 8))
	if o != nil || e != api.ErrExtentNone {
		t.Errorf("Open of zeros: %v", e)
	}
}
