package wal_test

import (
	"bytes"
	"fmt"
	"slices"
	"testing"

	"barograph/api"
	"barograph/disk"
	"barograph/extent"
	"barograph/wal"
)

// keeper follows a log, by nothing but what its calls answer, so that it knows what a crash may leave.
type keeper struct {
	t       *testing.T
	d       *disk.Disk
	s       *extent.Store
	w       *wal.Wal
	records [][]byte
	sure    int  // so many of them existed at the last Sync that returned OK
	isBegun bool // a new log was being committed when the power failed
	drawn   int  // records so far: no two are alike
}

// act is a call, drawn beforehand, so that it can be made again and again.
type act struct {
	kind string
	size int
}

// keep is a keeper of a log without records.
func keep(t *testing.T, sectors int) *keeper {
	t.Helper()
	k := &keeper{t: t, d: fresh(t, sectors)}
	s, e := extent.Format(k.d)
	must(t, e)
	w, e := wal.Begin(s)
	must(t, e, s.Commit())
	k.s, k.w = s, w
	return k
}

// record is one that is unlike all others.
func (k *keeper) record(size int) []byte {
	k.drawn++
	return append(little(uint64(k.drawn), 4), some(size, dice(k.drawn))...)[:max(4, size)]
}

// do makes a call, and tells whether the power was there.
func (k *keeper) do(x act) bool {
	k.t.Helper()
	e := api.OK
	switch x.kind {
	case "append":
		r := k.record(x.size)
		if e = k.w.Append(r); e == api.OK {
			k.records = append(k.records, r)
		}
	case "sync":
		if e = k.w.Sync(); e == api.OK {
			k.sure = len(k.records)
		}
	case "open":
		e = k.reopen()
	case "begin":
		e = k.begin()
	case "fill":
		k.s.Put("filler", make([]byte, 256*max(0, k.s.Free()-x.size)))
		e = k.s.Commit()
	case "empty":
		k.s.Remove("filler")
		e = k.s.Commit()
	}
	if e != api.ErrDark && k.w.Records() != len(k.records) {
		k.t.Fatalf("%d records, want %d", k.w.Records(), len(k.records))
	}
	return e != api.ErrDark
}

// reopen opens the log without a crash: nothing is lost.
func (k *keeper) reopen() api.Errno {
	k.t.Helper()
	w, l, e := wal.Open(k.s)
	if e == api.ErrDark {
		return e
	}
	if e != api.OK || !sameRecords(l, k.records) {
		k.t.Fatalf("Open: %d records, want %d: %v", len(l), len(k.records), e)
	}
	k.w = w
	return e
}

// begin begins a new log; where it finds no room, the old one goes on.
func (k *keeper) begin() api.Errno {
	w, e := wal.Begin(k.s)
	if e != api.OK {
		k.s.Drop()
		return e
	}
	e = k.s.Commit()
	k.isBegun = e == api.ErrDark
	if e == api.OK {
		k.w, k.records, k.sure = w, nil, 0
	}
	return e
}

// fits tells whether a crash may leave these records. The one that was being appended is never there, for the write at which the power failed is one of its own.
func (k *keeper) fits(l [][]byte) bool {
	if k.isBegun && len(l) == 0 {
		return true
	}
	return len(l) >= k.sure && len(l) <= len(k.records) && sameRecords(l, k.records[:len(l)])
}

// peek are the records that Open finds, on a disk of its own. The cache is empty.
func (k *keeper) peek(what string) [][]byte {
	k.t.Helper()
	s, e := extent.Open(loaded(k.t, k.d.Image()))
	must(k.t, e)
	w, l, e := wal.Open(s)
	if w == nil || e != api.OK || w.Records() != len(l) {
		k.t.Fatalf("%s: Open: %v", what, e)
	}
	v, m, e := wal.Open(s)
	if v == nil || e != api.OK || !sameRecords(l, m) {
		k.t.Fatalf("%s: the second Open: %d records, the first one: %d; %v", what, len(m), len(l), e)
	}
	return l
}

// recover opens what is there behind a crash, perhaps with the power gone some times meanwhile, and takes from there what is in the log.
func (k *keeper) recover(what string, x *dice) {
	k.t.Helper()
	want := k.peek(what)
	if !k.fits(want) {
		k.t.Fatalf("%s: %d records, want the first ones of %d, at least %d", what, len(want), len(k.records), k.sure)
	}
	for {
		s, e := extent.Open(k.d)
		must(k.t, e)
		if x != nil && x.below(3) > 0 {
			must(k.t, k.d.Trip(x.below(80)))
		}
		w, l, e := wal.Open(s)
		if e == api.ErrDark {
			k.d.Cut(x.bools(x.below(len(k.d.Pending()) + 2))...)
			continue
		}
		if e != api.OK || !sameRecords(l, want) || w.Records() != len(want) {
			k.t.Fatalf("%s: %d records, want %d: %v", what, len(l), len(want), e)
		}
		k.s, k.w, k.records, k.sure, k.isBegun = s, w, l, len(l), false
		return
	}
}

func drawnActs(x *dice, n int) []act {
	var l []act
	for range n {
		switch kind := x.below(20); {
		case kind < 11:
			l = append(l, act{"append", []int{4, 10, 240, 241, 700, 2000, 5000, 7680}[x.below(8)]})
		case kind < 14:
			l = append(l, act{kind: "sync"})
		case kind < 16:
			l = append(l, act{kind: "open"})
		case kind < 17:
			l = append(l, act{kind: "begin"})
		case kind < 18:
			l = append(l, act{"fill", 1 + x.below(70)})
		default:
			l = append(l, act{kind: "empty"})
		}
	}
	return l
}

// crashed does calls until the power fails behind n operations; false: it does not.
func crashed(t *testing.T, sectors int, acts []act, n int) (*keeper, bool) {
	t.Helper()
	k := keep(t, sectors)
	must(t, k.d.Trip(n))
	for _, x := range acts {
		if !k.do(x) {
			return k, true
		}
	}
	return k, false
}

// choices are what may be kept of so many writes: all of it, if they are few.
func choices(x *dice, n int) [][]bool {
	if n <= 3 {
		var l [][]bool
		for bits := range 1 << n {
			var kept []bool
			for i := range n {
				kept = append(kept, bits>>i&1 == 1)
			}
			l = append(l, kept)
		}
		return l
	}
	all := slices.Repeat([]bool{true}, n)
	but := slices.Clone(all)
	but[x.below(n)] = false
	last := make([]bool, n)
	copy(last[x.below(n):], all)
	return [][]bool{nil, all, all[:x.below(n)], but, last, x.bools(n)}
}

// crashEverywhere lets the power fail at each operation of some calls, with all or many choices of what outlives.
func crashEverywhere(t *testing.T, x *dice, sectors int, acts []act) {
	t.Helper()
	for n := 0; ; n++ {
		k, isDark := crashed(t, sectors, acts, n)
		if !isDark {
			return
		}
		for _, kept := range choices(x, len(k.d.Pending())) {
			k, _ := crashed(t, sectors, acts, n)
			k.d.Cut(kept...)
			what := fmt.Sprintf("%+v, %d operations, %v", acts, n, kept)
			k.recover(what, nil)
			// Anything can be done with it, and outlives the next crash; what was lost does not come back.
			for _, x := range []act{{"append", 300}, {"append", 5}, {kind: "sync"}, {"append", 7000}} {
				k.do(x)
			}
			k.d.Cut(kept...)
			k.recover(what+", again", nil)
		}
	}
}

// Each call there is, and each way in which a segment is begun.
func TestPowerFailsAtEachOperation(t *testing.T) {
	t.Parallel()
	x := dice(31)
	for _, acts := range [][]act{
		{{"append", 4}, {"append", 500}, {kind: "sync"}, {"append", 5}, {"append", 7680}, {"append", 10}},
		{{"append", 4}, {kind: "sync"}, {"append", 300}, {kind: "open"}, {"append", 6}, {kind: "open"}},
		{{"append", 700}, {kind: "sync"}, {"append", 300}, {kind: "begin"}, {"append", 6}, {kind: "sync"}, {kind: "open"}},
		{{"append", 700}, {"fill", 33}, {"append", 300}, {kind: "open"}, {"append", 6}, {kind: "empty"}, {kind: "open"}, {"append", 7}},
		{{kind: "open"}, {kind: "begin"}, {kind: "open"}, {kind: "begin"}},
		{{"append", 7000}, {"fill", 50}, {"append", 7000}, {"append", 6}, {kind: "sync"}, {kind: "begin"}, {"append", 7}},
	} {
		crashEverywhere(t, &x, 200, acts)
	}
}

func TestPowerFailsAnywhere(t *testing.T) {
	t.Parallel()
	x := dice(32)
	for range 8 {
		crashEverywhere(t, &x, 80+x.below(150), drawnActs(&x, 3+x.below(5)))
	}
}

// One crash behind another, on the same disk, also within Open.
func TestPowerFailsAgainAndAgain(t *testing.T) {
	t.Parallel()
	x := dice(33)
	told := map[string]int{}
	for range 150 {
		k := keep(t, 110+x.below(200))
		for crash := range 25 {
			must(t, k.d.Trip(x.below(1+x.below(160))))
			for k.do(drawnActs(&x, 1)[0]) {
			}
			before, sure := len(k.records), k.sure
			k.d.Cut(x.bools(x.below(len(k.d.Pending()) + 2))...)
			k.recover(fmt.Sprintf("crash %d", crash), &x)
			switch {
			case len(k.records) == before:
				told["all"]++
			case len(k.records) > sure:
				told["some"]++
			default:
				told["those that are sure"]++
			}
		}
	}
	for _, how := range []string{"all", "some", "those that are sure"} {
		if told[how] < 20 {
			t.Errorf("a crash leaves %s %d times only: %v", how, told[how], told)
		}
	}
}

// Each choice of what outlives of a few unsynced records: what is behind the first sector that is lost is lost with it, for good.
func TestEachChoiceOfWhatSurvives(t *testing.T) {
	records := [][]byte{[]byte("first"), some(300, 1), []byte("third"), some(500, 2), []byte("fifth")}
	// The record of each sector.
	of := []int{0, 1, 1, 2, 3, 3, 3, 4}
	for bits := range 1 << len(of) {
		d := fresh(t, 200)
		s, _ := extent.Format(d)
		w, _ := wal.Begin(s)
		must(t, s.Commit(), w.Append([]byte("sure")), w.Sync())
		for _, r := range records {
			must(t, w.Append(r))
		}
		want := len(records)
		var kept []bool
		for i, r := range of {
			kept = append(kept, bits>>i&1 == 1)
			if !kept[i] {
				want = min(want, r)
			}
		}
		d.Cut(kept...)
		all := append([][]byte{[]byte("sure")}, records[:want]...)
		for again := range 3 {
			s, e := extent.Open(d)
			must(t, e)
			w, l, e := wal.Open(s)
			must(t, e)
			if !sameRecords(l, all) {
				t.Fatalf("%v, %d: %d records, want %d", kept, again, len(l), len(all))
			}
			r := []byte{byte(again)}
			must(t, w.Append(r), w.Sync(), w.Append([]byte("lost")))
			all = append(all, r)
			d.Cut()
		}
	}
}

// What Sync has made lasting stays, over all that follows.
func TestWhatIsSyncedStays(t *testing.T) {
	for _, kept := range []bool{false, true} {
		d := fresh(t, 1000)
		s, _ := extent.Format(d)
		w, _ := wal.Begin(s)
		must(t, s.Commit())
		var want [][]byte
		for i := range 12 {
			r := some(1000*i%7680, dice(i))
			must(t, w.Append(r), w.Sync())
			want = append(want, r)
			if i%3 == 2 {
				must(t, d.Trip(10))
				for w.Append(some(7680, 1)) != api.ErrDark {
				}
				d.Cut(slices.Repeat([]bool{kept}, i)...) // never all of it
				s, _ = extent.Open(d)
				var l [][]byte
				var e api.Errno
				w, l, e = wal.Open(s)
				must(t, e)
				if !slices.EqualFunc(l, want, bytes.Equal) {
					t.Fatalf("%d records, want %d", len(l), len(want))
				}
			}
		}
	}
}
