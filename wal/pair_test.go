package wal_test

import (
	"bytes"
	"slices"
	"testing"

	"barograph/api"
	"barograph/disk"
	"barograph/extent"
	"barograph/wal"
)

// side is a store on a disk of its own.
type side struct {
	d *disk.Disk
	s *extent.Store
}

// pair is a log beside its description: what is done to one side is done to the other one.
type pair struct {
	t            *testing.T
	real, spoken side
	w            *wal.Wal // nil: there is none
	p            *plain
	flushes      int // at which the durable bytes were compared last
}

func fresh(t *testing.T, sectors int) *disk.Disk {
	t.Helper()
	d, e := disk.New(sectors)
	must(t, e)
	return d
}

func loaded(t *testing.T, image []byte) *disk.Disk {
	t.Helper()
	d, e := disk.Load(image)
	must(t, e)
	return d
}

func must(t *testing.T, l ...api.Errno) {
	t.Helper()
	for _, e := range l {
		if e != api.OK {
			t.Fatal(e)
		}
	}
}

// newPair has two formatted disks.
func newPair(t *testing.T, sectors int) *pair {
	t.Helper()
	x := &pair{t: t, flushes: -1}
	for _, y := range x.sides() {
		y.d = fresh(t, sectors)
		s, e := extent.Format(y.d)
		must(t, e)
		y.s = s
	}
	return x
}

func (x *pair) sides() []*side { return []*side{&x.real, &x.spoken} }

// newLog has two logs without records.
func newLog(t *testing.T, sectors int) *pair {
	t.Helper()
	x := newPair(t, sectors)
	must(t, x.begin(), x.commit())
	return x
}

// fork has the same disks as the durable bytes of another one, and opens their stores.
func (x *pair) fork() *pair {
	x.t.Helper()
	y := &pair{t: x.t}
	y.real.d, y.spoken.d = loaded(x.t, x.real.d.Image()), loaded(x.t, x.spoken.d.Image())
	y.find()
	return y
}

// find opens the stores that the disks have.
func (x *pair) find() {
	x.t.Helper()
	x.w, x.p, x.flushes = nil, nil, -1
	for _, y := range x.sides() {
		s, e := extent.Open(y.d)
		must(x.t, e)
		y.s = s
	}
}

// same holds all that can be asked without an operation against the description.
func (x *pair) same(what string) {
	x.t.Helper()
	d, q := x.real.d, x.spoken.d
	if d.Counts() != q.Counts() || d.Dark() != q.Dark() || !slices.Equal(d.Pending(), q.Pending()) {
		x.t.Fatalf("%s: %+v, dark %v, pending %v; want %+v, %v, %v", what, d.Counts(), d.Dark(), d.Pending(), q.Counts(), q.Dark(), q.Pending())
	}
	if n := d.Counts().Flushes; n != x.flushes && !bytes.Equal(d.Image(), q.Image()) {
		x.t.Fatalf("%s: the disk is another one", what)
	}
	x.flushes = d.Counts().Flushes
	if got, want := x.real.s.Files(), x.spoken.s.Files(); !slices.Equal(got, want) {
		x.t.Fatalf("%s: Files %+v, want %+v", what, got, want)
	}
	if got, want := x.real.s.Free(), x.spoken.s.Free(); got != want {
		x.t.Fatalf("%s: Free %d, want %d", what, got, want)
	}
	if x.p != nil && (x.w.Records() != x.p.records || x.w.Segments() != len(x.p.list)) {
		x.t.Fatalf("%s: %d records, %d segments; want %d, %d", what, x.w.Records(), x.w.Segments(), x.p.records, len(x.p.list))
	}
}

// is holds an error, and all else, against the description, and answers the error.
func (x *pair) is(what string, got, want api.Errno) api.Errno {
	x.t.Helper()
	if got != want {
		x.t.Fatalf("%s: %v, want %v", what, got, want)
	}
	x.same(what)
	return got
}

// both does something to both stores.
func (x *pair) both(do func(s *extent.Store) api.Errno) api.Errno {
	x.t.Helper()
	return x.is("a call of the store", do(x.real.s), do(x.spoken.s))
}

func (x *pair) commit() api.Errno {
	x.t.Helper()
	return x.both((*extent.Store).Commit)
}

func (x *pair) drop() {
	x.real.s.Drop()
	x.spoken.s.Drop()
}

func (x *pair) trip(n int) {
	x.t.Helper()
	must(x.t, x.real.d.Trip(n), x.spoken.d.Trip(n))
}

// cut takes the power away and brings it back; the stores are opened anew.
func (x *pair) cut(keep ...bool) {
	x.t.Helper()
	x.real.d.Cut(keep...)
	x.spoken.d.Cut(keep...)
	x.find()
}

func (x *pair) begin() api.Errno {
	x.t.Helper()
	w, e := wal.Begin(x.real.s)
	p, want := plainBegin(x.spoken.s)
	if (w != nil) != (e == api.OK) {
		x.t.Fatalf("Begin: a log beside %v", e)
	}
	x.w, x.p = w, p
	return x.is("Begin", e, want)
}

func (x *pair) open() ([][]byte, api.Errno) {
	x.t.Helper()
	w, l, e := wal.Open(x.real.s)
	p, m, want := plainOpen(x.spoken.s)
	if (w != nil) != (e == api.OK) || e != api.OK && len(l) > 0 {
		x.t.Fatalf("Open: a log, or %d records, beside %v", len(l), e)
	}
	x.w, x.p = w, p
	if !sameRecords(l, m) {
		x.t.Fatalf("Open: %d records, want %d: %.20x, want %.20x", len(l), len(m), l, m)
	}
	return l, x.is("Open", e, want)
}

func (x *pair) append(record []byte) api.Errno {
	x.t.Helper()
	return x.is("Append", x.w.Append(record), x.p.append(record))
}

// appends appends records, each of which is taken.
func (x *pair) appends(records ...[]byte) {
	x.t.Helper()
	for _, r := range records {
		must(x.t, x.append(r))
	}
}

func (x *pair) sync() api.Errno {
	x.t.Helper()
	return x.is("Sync", x.w.Sync(), x.p.sync())
}

func sameRecords(l, m [][]byte) bool { return slices.EqualFunc(l, m, bytes.Equal) }

// put and lay stage and commit files.
func (x *pair) put(name string, data []byte) {
	x.t.Helper()
	must(x.t, x.both(func(s *extent.Store) api.Errno { return s.Put(name, data) }), x.commit())
}

// lay makes a log of so many sectors, with these at its beginning.
func (x *pair) lay(name string, size int, sectors ...[]byte) {
	x.t.Helper()
	must(x.t, x.both(func(s *extent.Store) api.Errno { return s.Make(name, size) }), x.commit())
	for i, b := range sectors {
		must(x.t, x.both(func(s *extent.Store) api.Errno { return s.Set(name, i, b) }))
	}
	must(x.t, x.both((*extent.Store).Flush))
}

func (x *pair) remove(name string) api.Errno {
	x.t.Helper()
	return x.both(func(s *extent.Store) api.Errno { return s.Remove(name) })
}

func (x *pair) free() int { return x.real.s.Free() }

// leave fills the store with a file, so that just so many sectors are free.
func (x *pair) leave(sectors int) {
	x.t.Helper()
	x.put("filler", make([]byte, 256*(x.free()-sectors)))
	if x.free() != sectors {
		x.t.Fatalf("%d sectors are free, not %d", x.free(), sectors)
	}
}

// filesAre holds the files of the store: their names, with a log's size.
func (x *pair) filesAre(what string, want ...api.File) {
	x.t.Helper()
	got := x.real.s.Files()
	for i := range got {
		got[i].Runs = 0
	}
	if !slices.Equal(got, want) {
		x.t.Errorf("%s: Files %+v, want %+v", what, got, want)
	}
}

func log(number uint64) api.File { return api.File{Name: logOf(number), Log: true, Size: 32} }

func list(segments int) api.File { return api.File{Name: "wal", Size: 2 + 5*segments} }

// listIs holds the bytes of the file wal.
func (x *pair) listIs(what string, want ...entry) {
	x.t.Helper()
	// The other side reads too, so that both have as many operations.
	b, e := x.real.s.Get("wal")
	if _, f := x.spoken.s.Get("wal"); e != api.OK || f != api.OK {
		x.t.Fatalf("%s: %v, %v", what, e, f)
	}
	if !bytes.Equal(b, listOf(want...)) {
		x.t.Errorf("%s: wal is %x, want %x", what, b, listOf(want...))
	}
}

// sectorsAre holds the sectors of a log, behind these all are zeros.
func (x *pair) sectorsAre(what string, number uint64, want ...[]byte) {
	x.t.Helper()
	for i := range 32 {
		b, e := x.real.s.Sector(logOf(number), i)
		if _, f := x.spoken.s.Sector(logOf(number), i); e != api.OK || f != api.OK {
			x.t.Fatalf("%s, sector %d: %v, %v", what, i, e, f)
		}
		is := make([]byte, 256)
		if i < len(want) {
			is = want[i]
		}
		if !bytes.Equal(b, is) {
			x.t.Errorf("%s, sector %d of %s: %x, want %x", what, i, logOf(number), b, is)
		}
	}
}
