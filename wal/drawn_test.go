package wal_test

import (
	"slices"
	"testing"

	"barograph/api"
	"barograph/extent"
)

// drawer does drawn calls to a pair, and counts what they answer.
type drawer struct {
	*pair
	x        *dice
	isStaged bool // the log is one that Begin has staged: it is not used before a commit
	told     map[string]int
}

func (w *drawer) note(call string, e api.Errno) { w.told[call+" "+e.Error()]++ }

// size is that of a drawn record: mostly one that a log may have, and often one at the edge of a sector.
func (w *drawer) size() int {
	switch w.x.below(8) {
	case 0:
		return 7679 + w.x.below(4)
	case 1:
		return w.x.below(7681)
	case 2, 3:
		return max(0, w.x.below(33)*240+w.x.below(3)-1)
	}
	return w.x.below(500)
}

// use does a call of the log.
func (w *drawer) use() {
	if w.x.below(8) == 0 {
		w.note("Sync", w.sync())
		return
	}
	r := w.x.bytes(w.size())
	call := "Append"
	if w.p.noRoom {
		call = "Append without room"
	}
	segments := len(w.p.list)
	w.note(call, w.append(r))
	if len(w.p.list) > segments {
		w.told["a segment more"]++
	}
	overwrite(r)
}

// finish commits or drops what Begin has staged, perhaps beside something else.
func (w *drawer) finish() {
	if w.x.below(4) == 0 {
		w.stage()
	}
	if w.x.below(5) == 0 {
		w.drop()
		w.w, w.p = nil, nil
	} else if e := w.commit(); e != api.OK {
		w.w, w.p = nil, nil
	}
	w.isStaged = false
}

func (w *drawer) name() string {
	return []string{"wal", "wal.1", "wal.2", "wal.3", "wal.4", "wal.5", "wal.6", "wal.", "wal.x", "head", "b1", "t1"}[w.x.below(12)]
}

// entries are a drawn list, which is often nearly right.
func (w *drawer) entries() []byte {
	var l []entry
	number := uint64(0)
	if w.x.below(20) == 0 {
		number = 1<<31 - 3
	}
	for range w.x.below(4) {
		number += uint64(1 + w.x.below(1+w.x.below(3)))
		l = append(l, closed(number, byte(w.x.below(4))))
	}
	if w.x.below(2) == 0 {
		l = append(l, opened(number+1))
	}
	b := listOf(l...)
	switch w.x.below(12) {
	case 0:
		b[w.x.below(len(b))] = byte(w.x.below(256))
	case 1:
		b = b[:w.x.below(len(b))]
	case 2:
		b = append(b, byte(w.x.below(3)))
	}
	return b
}

// stage stages a change of the store.
func (w *drawer) stage() {
	name := w.name()
	data := w.x.bytes(w.x.below(700))
	if name == "wal" || w.x.below(4) == 0 {
		data = w.entries()
	}
	to, size := w.name(), []int{1, 2, 31, 32, 32, 32, 33}[w.x.below(7)]
	switch w.x.below(4) {
	case 0:
		w.both(func(s *extent.Store) api.Errno { return s.Put(name, data) })
	case 1:
		w.both(func(s *extent.Store) api.Errno { return s.Make(name, size) })
	case 2:
		w.both(func(s *extent.Store) api.Errno { return s.Rename(name, to) })
	}
	w.both(func(s *extent.Store) api.Errno { return s.Remove(name) })
	if w.x.below(2) == 0 {
		w.both(func(s *extent.Store) api.Errno { return s.Put(name, data) })
	}
}

// set writes a sector of a log: one of a record, mostly.
func (w *drawer) set() {
	i, n := w.x.below(4), uint64(1+w.x.below(4))
	b := sector(byte(1+w.x.below(4)), n, i, w.x.bytes(1+w.x.below(240)))
	if w.x.below(8) == 0 {
		b = w.x.bytes(256)
	}
	w.both(func(s *extent.Store) api.Errno { return s.Set(logOf(n), i, b) })
}

// fill leaves few sectors, or many.
func (w *drawer) fill() {
	n := w.x.below(120)
	w.both(func(s *extent.Store) api.Errno { return s.Remove("filler") })
	if w.x.below(3) > 0 {
		w.both(func(s *extent.Store) api.Errno { return s.Put("filler", make([]byte, 256*max(0, s.Free()-n))) })
	}
	w.commit()
}

// look opens the log, or begins another one.
func (w *drawer) look() {
	if w.x.below(3) > 0 {
		_, e := w.open()
		w.note("Open", e)
		if w.p != nil && w.p.noRoom {
			w.told["no room"]++
		}
		return
	}
	e := w.begin()
	w.note("Begin", e)
	w.isStaged = e == api.OK
}

// step does any call.
func (w *drawer) step() {
	isDark := w.real.d.Dark()
	switch kind := w.x.below(100); {
	case w.isStaged:
		w.finish()
	case isDark && kind < 25:
		w.cut(w.x.bools(w.x.below(len(w.real.d.Pending()) + 2))...)
	case w.p != nil && kind < 70 && (!w.p.noRoom || kind < 20):
		w.use()
	case kind < 80:
		w.look()
	case kind < 82:
		w.stage()
	case kind < 84:
		w.set()
	case kind < 87:
		w.fill()
	case kind < 89:
		w.note("Commit", w.commit())
	case kind < 91:
		w.drop()
	case kind < 95 && !isDark:
		w.trip(w.x.below(1 + w.x.below(90)))
	}
}

// Any calls, one after another, answer what the chapter says, with the operations that it says, also where others change the store.
func TestDrawnCalls(t *testing.T) {
	t.Parallel()
	x := dice(41)
	w := &drawer{x: &x, told: map[string]int{}}
	for range 400 {
		w.pair, w.isStaged = newPair(t, 60+x.below(200)), false
		for range 120 {
			w.step()
		}
	}
	for _, x := range []struct {
		what  string
		least int
	}{
		{"Append errno 0", 2000}, {"Append errno 4", 200}, {"Append errno 5", 200}, {"Append errno 63", 10}, {"Append errno 111", 200},
		{"Append without room errno 5", 200}, {"Append without room errno 111", 50}, {"a segment more", 200},
		{"Open errno 0", 300}, {"Open errno 4", 100}, {"Open errno 120", 200}, {"no room", 50},
		{"Begin errno 0", 200}, {"Begin errno 4", 20}, {"Begin errno 5", 20}, {"Begin errno 63", 2}, {"Begin errno 64", 2},
		{"Sync errno 0", 200}, {"Sync errno 4", 50}, {"Commit errno 0", 100},
	} {
		if w.told[x.what] < x.least {
			t.Errorf("%q comes %d times only", x.what, w.told[x.what])
		}
	}
}

// Drawn lists with logs of drawn records are opened as the chapter says.
func TestDrawnListsAndLogs(t *testing.T) {
	t.Parallel()
	x := dice(43)
	told := map[api.Errno]int{}
	for range 500 {
		w := &drawer{pair: newPair(t, 250), x: &x, told: map[string]int{}}
		l := w.logs()
		for range x.below(2) {
			w.set()
		}
		data := listOf(l...)
		if x.below(6) == 0 {
			data[x.below(len(data))] ^= byte(1 << x.below(8))
		}
		w.put("wal", data)
		got, e := w.open()
		told[e]++
		if e == api.OK && w.x.below(2) == 0 {
			w.use()
			again, e := w.open()
			if e != api.OK || len(again) < len(got) || !slices.EqualFunc(again[:len(got)], got, slices.Equal) {
				t.Errorf("the second Open: %d records behind %d: %v", len(again), len(got), e)
			}
		}
	}
	for _, e := range []api.Errno{api.OK, api.ErrWalForm} {
		if told[e] < 100 {
			t.Errorf("%v comes %d times only", e, told[e])
		}
	}
}

// logs lays drawn logs, and answers a list that fits, mostly.
func (w *drawer) logs() []entry {
	var l []entry
	number := uint64(0)
	for range w.x.below(5) {
		number += uint64(1 + w.x.below(2))
		var records [][]byte
		for len(packed(1, records...)) < 20 && w.x.below(5) > 0 {
			records = append(records, w.x.bytes(w.x.below(700)))
		}
		sectors := packed(number, records...)
		used := len(sectors)
		if w.x.below(8) == 0 {
			used = min(32, used+w.x.below(3))
		}
		w.lay(logOf(number), 32, sectors...)
		l = append(l, closed(number, byte(used)))
	}
	if len(l) > 0 && w.x.below(2) == 0 {
		l[len(l)-1].used = 255
	}
	return l
}
