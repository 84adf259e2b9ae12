package extent_test

import (
	"bytes"
	"slices"
	"strconv"
	"strings"
	"testing"

	"barograph/api"
	"barograph/disk"
	"barograph/extent"
)

// pair is a store beside its description, each on a disk of its own.
type pair struct {
	t     *testing.T
	x     *dice
	names []string
	sizes []int // of data, in bytes
	d     *disk.Disk
	s     *extent.Store
	p     *plain
}

func newPair(t *testing.T, x *dice, sectors int) *pair {
	t.Helper()
	w := &pair{t: t, x: x, d: fresh(t, sectors)}
	s, e := extent.Format(w.d)
	p, want := plainFormat(fresh(t, sectors))
	if e != want {
		t.Fatalf("Format of %d sectors: %v, want %v", sectors, e, want)
	}
	w.s, w.p = s, p
	return w
}

// same holds all that can be asked without an operation, of the store and of the disk, against the description.
func (w *pair) same(what string) {
	w.t.Helper()
	d, p := w.d, w.p
	if d.Counts() != p.d.Counts() || d.Dark() != p.d.Dark() || !slices.Equal(d.Pending(), p.d.Pending()) {
		w.t.Fatalf("%s: %+v, dark %v, pending %v; want %+v, %v, %v", what, d.Counts(), d.Dark(), d.Pending(), p.d.Counts(), p.d.Dark(), p.d.Pending())
	}
	if !bytes.Equal(d.Image(), p.d.Image()) {
		w.t.Fatalf("%s: the disk is another one", what)
	}
	if got, want := w.s.Files(), p.list(); !slices.Equal(got, want) {
		w.t.Fatalf("%s: Files %+v, want %+v", what, got, want)
	}
	if got, want := w.s.Free(), len(p.free()); got != want {
		w.t.Fatalf("%s: Free %d, want %d", what, got, want)
	}
}

// is holds an error against the description's.
func (w *pair) is(what string, got, want api.Errno) {
	w.t.Helper()
	if got != want {
		w.t.Fatalf("%s: %v, want %v", what, got, want)
	}
}

// answers holds bytes that were read, too.
func (w *pair) answers(what string, got []byte, e api.Errno, want []byte, wantErr api.Errno) {
	w.t.Helper()
	w.is(what, e, wantErr)
	if !bytes.Equal(got, want) {
		w.t.Fatalf("%s: %d bytes, %.4x..; want %d, %.4x..", what, len(got), got, len(want), want)
	}
	spoil(got)
}

// spoil changes bytes that a call has taken or given, which must change nothing of the store.
func spoil(b []byte) {
	for i := range b {
		b[i] ^= 0xa5
	}
}

func (w *pair) name() string { return w.names[w.x.below(len(w.names))] }

// change does a drawn call that stages something, or would.
func (w *pair) change() string {
	name := w.name()
	switch kind := w.x.below(20); {
	case kind < 9:
		data := w.x.bytes(w.sizes[w.x.below(len(w.sizes))])
		what, want := "Put("+name+", "+strconv.Itoa(len(data))+" bytes)", w.p.put(name, data)
		w.is(what, w.s.Put(name, data), want)
		spoil(data)
		return what
	case kind < 12:
		sectors := []int{-1, 0, 1, 1, 2, 3, 5, 16384, 16385}[w.x.below(9)]
		what := "Make(" + name + ", " + strconv.Itoa(sectors) + ")"
		w.is(what, w.s.Make(name, sectors), w.p.make(name, sectors))
		return what
	case kind < 16:
		what := "Remove(" + name + ")"
		w.is(what, w.s.Remove(name), w.p.remove(name))
		return what
	}
	to := w.name()
	what := "Rename(" + name + ", " + to + ")"
	w.is(what, w.s.Rename(name, to), w.p.rename(name, to))
	return what
}

// look does a drawn call that reads or writes what is current.
func (w *pair) look() string {
	name, i := w.name(), w.x.below(6)-1
	switch w.x.below(4) {
	case 0:
		got, e := w.s.Get(name)
		want, wantErr := w.p.get(name)
		w.answers("Get("+name+")", got, e, want, wantErr)
	case 1:
		got, e := w.s.Sector(name, i)
		want, wantErr := w.p.sector(name, i)
		w.answers("Sector("+name+")", got, e, want, wantErr)
	case 2:
		b := w.x.bytes([]int{256, 256, 256, 256, 0, 255, 257, 512}[w.x.below(8)])
		want := w.p.set(name, i, b)
		w.is("Set("+name+")", w.s.Set(name, i, b), want)
		spoil(b)
	case 3:
		w.is("Flush", w.s.Flush(), w.p.flush())
	}
	return "a look at " + name
}

// reopen lets the power go on both disks, with the same writes that are kept, and opens what is there.
func (w *pair) reopen() string {
	keep := w.x.bools(len(w.d.Pending()))
	w.d.Cut(keep...)
	w.p.d.Cut(keep...)
	s, e := extent.Open(w.d)
	p, want := plainOpen(w.p.d)
	w.is("Open", e, want)
	if s == nil || p == nil {
		w.t.Fatalf("Open: %v", e)
	}
	w.s, w.p = s, p
	return "Open"
}

// step does any call.
func (w *pair) step() string {
	if w.p.dark && w.x.below(8) == 0 {
		return w.reopen()
	}
	switch kind := w.x.below(100); {
	case kind < 55:
		return w.change()
	case kind < 78:
		return w.look()
	case kind < 93:
		w.is("Commit", w.s.Commit(), w.p.commit())
		return "Commit"
	case kind < 96:
		w.s.Drop()
		w.p.drop()
		return "Drop"
	case kind < 97:
		n := w.x.below(12)
		w.is("Trip", w.d.Trip(n), w.p.d.Trip(n))
		return "Trip"
	case kind < 98:
		return w.reopen()
	}
	return "nothing"
}

var drawnNames = []string{"a", "b", "c", "d", "a.b", "log-1", longest, "", "A", "a/b", longest + "x"}

// Any calls, one after another, answer what the chapter says, with the operations that it says.
func TestDrawnCalls(t *testing.T) {
	x := dice(1)
	for round := range 400 {
		w := newPair(t, &x, 3+x.below(40))
		w.names = drawnNames
		w.sizes = []int{0, 1, 10, 255, 256, 257, 512, 700, x.below(2000)}
		w.same("Format")
		for i := range 150 {
			w.same("round " + strconv.Itoa(round) + ", " + strconv.Itoa(i) + ", " + w.step())
		}
	}
}

// Many files of one sector, of which some are removed, leave room that lies in many pieces.
func TestDrawnCallsInManyRuns(t *testing.T) {
	x := dice(2)
	for round := range 8 {
		w := newPair(t, &x, 260+x.below(60))
		for i := range 130 {
			name := "n" + strconv.Itoa(i)
			w.names = append(w.names, name)
			w.is("Put", w.s.Put(name, []byte(name)), w.p.put(name, []byte(name)))
		}
		w.is("Commit", w.s.Commit(), w.p.commit())
		for i, name := range w.names {
			if i%2 == 0 || x.below(30) == 0 {
				w.is("Remove", w.s.Remove(name), w.p.remove(name))
			}
		}
		w.is("Commit", w.s.Commit(), w.p.commit())
		if f := runsIn(w.p.free()); len(f) < 50 {
			t.Fatalf("only %d pieces", len(f))
		}
		for range 40 {
			w.sizes = []int{256, 256 * (40 + x.below(20)), 256 * 48, 256*48 + 1}
			w.same("round " + strconv.Itoa(round) + ", " + w.change())
			if x.below(6) == 0 {
				w.is("Commit", w.s.Commit(), w.p.commit())
			}
			if x.below(6) == 0 {
				w.s.Drop()
				w.p.drop()
			}
		}
		w.reopen()
		w.same("Open")
	}
}

// sectorsOf are those that files have.
func sectorsOf(files []api.File) int {
	n := 0
	for _, f := range files {
		if f.Log {
			n += f.Size
		} else {
			n += (f.Size + 255) / 256
		}
	}
	return n
}

// While nothing is staged, the free sectors, those of the files and those of the directory are all from 2 on, and no two have one.
func TestAllSectorsBelongSomewhere(t *testing.T) {
	x := dice(3)
	for range 60 {
		w := newPair(t, &x, 8+x.below(60))
		w.names, w.sizes = drawnNames, []int{0, 1, 256, 257, 1000}
		for range 120 {
			w.step()
			if w.p.dark {
				w.reopen()
			}
			w.s.Drop()
			w.p.drop()
			if x.below(3) == 0 {
				w.change()
				w.is("Commit", w.s.Commit(), w.p.commit())
			}
			if w.p.dark {
				continue
			}
			j := judge(w.d.Image(), w.p.slot)
			if !j.good {
				t.Fatal("the current slot is not good")
			}
			if got := w.s.Free() + sectorsOf(w.s.Files()) + len(j.p.home) + 2; got != w.d.Sectors() {
				t.Fatalf("%d sectors belong somewhere, of %d: %s", got, w.d.Sectors(), strings.Join(w.names, " "))
			}
		}
	}
}
