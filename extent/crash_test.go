package extent_test

import (
	"bytes"
	"fmt"
	"maps"
	"slices"
	"testing"

	"barograph/api"
	"barograph/disk"
	"barograph/extent"
)

// held is what a file holds; it stays the same one when it is renamed.
type held struct {
	data []byte
	log  []*logSector // the sectors of a log
}

// logSector is one of a log: what is durable, and what has been set since.
type logSector struct {
	durable []byte
	since   [][]byte
}

func (w *logSector) may(b []byte) bool {
	return bytes.Equal(b, w.durable) || slices.ContainsFunc(w.since, func(c []byte) bool { return bytes.Equal(b, c) })
}

// settle makes the last one durable.
func (w *logSector) settle() {
	if n := len(w.since); n > 0 {
		w.durable, w.since = w.since[n-1], nil
	}
}

type state map[string]*held

func (s state) settle() {
	for _, f := range s {
		for _, w := range f.log {
			w.settle()
		}
	}
}

// keeper follows a store, by nothing but what its calls answer, so that it knows what a crash may leave.
type keeper struct {
	t             *testing.T
	s             *extent.Store
	current, next state
	maybe         state // what a commit that was in progress may have made of it
}

// step is a call, drawn beforehand, so that it can be made again and again.
type step struct {
	kind     int
	from, to string
	n, i     int
	data     []byte
}

func drawnSteps(x *dice, n int) []step {
	names := []string{"a", "b", "c", "d"}
	var l []step
	for range n {
		l = append(l, step{x.below(20), names[x.below(4)], names[x.below(4)], 1 + x.below(3), x.below(3), x.bytes([]int{0, 1, 256, 300, 600}[x.below(5)])})
	}
	return l
}

// do makes a call, and tells whether the power was there.
func (k *keeper) do(x step) bool {
	var e api.Errno
	switch {
	case x.kind < 4:
		if e = k.s.Put(x.from, x.data); e == api.OK {
			k.next[x.from] = &held{data: x.data}
		}
	case x.kind < 6:
		if e = k.s.Make(x.from, x.n); e == api.OK {
			f := &held{}
			for range x.n {
				f.log = append(f.log, &logSector{durable: full(0)})
			}
			k.next[x.from] = f
		}
	case x.kind < 9:
		if e = k.s.Remove(x.from); e == api.OK {
			delete(k.next, x.from)
		}
	case x.kind < 11:
		if e = k.s.Rename(x.from, x.to); e == api.OK {
			k.next[x.to] = k.next[x.from]
			delete(k.next, x.from)
		}
	case x.kind < 14:
		b := bytes.Repeat([]byte{byte(17*x.n + x.i + 1)}, 256)
		if e = k.s.Set(x.from, x.i, b); e == api.OK {
			w := k.current[x.from].log[x.i]
			w.since = append(w.since, b)
		}
	case x.kind < 15:
		if e = k.s.Flush(); e == api.OK {
			k.current.settle()
		}
	case x.kind < 16:
		k.s.Drop()
		k.next = maps.Clone(k.current)
	default:
		e = k.commit()
	}
	return e != api.ErrDark
}

func (k *keeper) commit() api.Errno {
	e := k.s.Commit()
	switch e {
	case api.OK:
		k.current.settle()
		k.current = maps.Clone(k.next)
	case api.ErrDark:
		k.maybe = k.next
	default:
		k.next = maps.Clone(k.current)
	}
	return e
}

// fits tells why a store has not these files, with these contents; nothing, if it has.
func fits(s *extent.Store, want state) string {
	files := s.Files()
	if len(files) != len(want) {
		return fmt.Sprintf("%d files, want %d", len(files), len(want))
	}
	for _, f := range files {
		h := want[f.Name]
		if h == nil || f.Log != (h.log != nil) {
			return fmt.Sprintf("there is %+v", f)
		}
		if b, e := s.Get(f.Name); !f.Log && (e != api.OK || !bytes.Equal(b, h.data)) {
			return fmt.Sprintf("%+v: %d bytes, %v", f, len(b), e)
		}
		if f.Log && f.Size != len(h.log) {
			return fmt.Sprintf("%+v, want %d sectors", f, len(h.log))
		}
		for i, w := range h.log {
			if b, e := s.Sector(f.Name, i); e != api.OK || !w.may(b) {
				return fmt.Sprintf("%+v, sector %d: %.4x, %v", f, i, b, e)
			}
		}
	}
	return ""
}

// recover opens the store that is there behind a crash, and takes from there what is current.
func (k *keeper) recover(what string, d *disk.Disk) {
	k.t.Helper()
	s, e := extent.Open(d)
	if s == nil || e != api.OK {
		k.t.Fatalf("%s: Open: %v", what, e)
	}
	why := fits(s, k.current)
	if why != "" && k.maybe != nil {
		if also := fits(s, k.maybe); also == "" {
			k.current, why = k.maybe, ""
		} else {
			why += "; or " + also
		}
	}
	if why != "" {
		k.t.Fatalf("%s: %s", what, why)
	}
	if got := s.Free() + sectorsOf(s.Files()); got > d.Sectors()-3 {
		k.t.Fatalf("%s: %d sectors of %d", what, got, d.Sectors())
	}
	k.s, k.maybe = s, nil
	for name, f := range k.current {
		for i, w := range f.log {
			w.durable, _ = s.Sector(name, i)
			w.since = nil
		}
	}
	k.next = maps.Clone(k.current)
}

// begin is a keeper of a store with two files and a log.
func begin(t *testing.T, sectors int) (*disk.Disk, *keeper) {
	t.Helper()
	d, s := formatted(t, sectors)
	k := &keeper{t: t, s: s, current: state{}, next: state{}}
	for _, x := range []step{{kind: 0, from: "a", data: some(300)}, {kind: 0, from: "b", data: some(20)}, {kind: 4, from: "c", n: 3}, {kind: 19}} {
		if !k.do(x) {
			t.Fatal("dark")
		}
	}
	return d, k
}

// crashed does steps until the power fails behind n operations; false: it does not.
func crashed(t *testing.T, sectors int, steps []step, n int) (*disk.Disk, *keeper, bool) {
	t.Helper()
	d, k := begin(t, sectors)
	trip(t, d, n)
	for _, x := range steps {
		if !k.do(x) {
			return d, k, true
		}
	}
	return d, k, false
}

// choices are what may be kept of so many writes: all of it, if they are few.
func choices(x *dice, n int) [][]bool {
	var l [][]bool
	if n <= 4 {
		for bits := range 1 << n {
			var keep []bool
			for i := range n {
				keep = append(keep, bits>>i&1 == 1)
			}
			l = append(l, keep)
		}
		return l
	}
	for i := range n + 1 { // the first ones, the last ones, and all but one
		keep := make([]bool, n)
		for j := range i {
			keep[j] = true
		}
		l = append(l, keep)
		last := slices.Clone(keep)
		slices.Reverse(last)
		but := slices.Repeat([]bool{true}, n)
		but[i%n] = false
		l = append(l, last, but)
	}
	for range 8 {
		l = append(l, x.bools(n))
	}
	return l
}

// crashEverywhere lets the power fail at each operation of some steps, with all or many choices of what outlives.
func crashEverywhere(t *testing.T, x *dice, sectors int, steps []step) {
	t.Helper()
	for n := 0; ; n++ {
		d, _, dark := crashed(t, sectors, steps, n)
		if !dark {
			return
		}
		for _, keep := range choices(x, len(d.Pending())) {
			d, k, _ := crashed(t, sectors, steps, n)
			d.Cut(keep...)
			what := fmt.Sprintf("%d operations, %v", n, keep)
			k.recover(what, d)
			// Anything can be done with it, and outlives the next crash.
			for _, x := range []step{{kind: 0, from: "z", data: some(40)}, {kind: 6, from: "a"}, {kind: 19}} {
				k.do(x)
			}
			d.Cut()
			k.recover(what+", again", d)
		}
	}
}

func TestPowerFailsAnywhere(t *testing.T) {
	x := dice(21)
	for range 300 {
		crashEverywhere(t, &x, 12+x.below(16), drawnSteps(&x, 4+x.below(14)))
	}
}

// A commit that changes all there is.
func TestPowerFailsInACommit(t *testing.T) {
	x := dice(22)
	crashEverywhere(t, &x, 30, []step{
		{kind: 6, from: "a"}, {kind: 0, from: "a", data: some(600)}, {kind: 9, from: "b", to: "d"}, {kind: 12, from: "c", n: 1, i: 2},
		{kind: 6, from: "c"}, {kind: 4, from: "c", n: 2}, {kind: 0, from: "e"}, {kind: 19}, {kind: 12, from: "c", n: 3, i: 1}, {kind: 19}, {kind: 19},
	})
}

// One crash behind another, on the same disk.
func TestPowerFailsAgainAndAgain(t *testing.T) {
	x := dice(23)
	for range 600 {
		d, k := begin(t, 12+x.below(20))
		for crash := range 20 {
			trip(t, d, x.below(25))
			for k.do(drawnSteps(&x, 1)[0]) {
			}
			d.Cut(x.bools(x.below(len(d.Pending()) + 2))...)
			k.recover(fmt.Sprintf("crash %d", crash), d)
		}
	}
}

// What Format has not done yet is an error, or a store without files.
func TestPowerFailsInFormat(t *testing.T) {
	for _, image := range [][]byte{make([]byte, 256*6), some(256 * 6)} {
		for n := range 5 {
			for bits := range 1 << 3 {
				d := loaded(t, image)
				trip(t, d, n)
				s, e := extent.Format(d)
				if s != nil || e != api.ErrDark {
					t.Errorf("Format in the dark: %v", e)
				}
				d.Cut(bits&1 > 0, bits&2 > 0, bits&4 > 0)
				s, e = extent.Open(d)
				if (s == nil) != (e != api.OK) || s != nil && len(s.Files()) > 0 {
					t.Errorf("Open behind %d operations of Format: %v", n, e)
				}
			}
		}
	}
}

// Once Commit has answered OK, nothing that is lost of what comes behind it takes its files away.
func TestWhatWasCommittedStays(t *testing.T) {
	for _, kept := range []bool{false, true} {
		d, s := formatted(t, 30)
		must(t, s.Put("a", some(700)), s.Commit(), s.Remove("a"), s.Put("a", some(701)), s.Commit())
		must(t, s.Remove("a"), s.Put("b", some(702)), s.Rename("b", "a"), s.Put("b", some(703)))
		d.Cut(slices.Repeat([]bool{kept}, 20)...)
		holds(t, opened(t, d), "a", some(701))
	}
}
