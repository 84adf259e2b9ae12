package wal

import (
	"errors"
	"slices"
	"strings"

	"barograph/api"
	"barograph/extent"
)

// removeOld stages that the log that is there is gone, and answers its segments; none, if there is no log or its list tells nothing.
func removeOld(s *extent.Store) ([]segment, error) {
	var logs []step
	found := false
	for _, f := range s.Files() {
		found = found || f.Name == listName
		if strings.HasPrefix(f.Name, prefix) {
			logs = append(logs, removeFile(s, f.Name))
		}
	}
	if !found {
		return nil, nil
	}
	l, err := readList(s)
	if errors.Is(err, api.ErrDark) {
		return nil, err
	}
	err = inOrder(append([]step{removeFile(s, listName)}, logs...)...)
	return l, err
}

// read finds the segments that the store has, and answers their records.
func (w *Wal) read() ([][]byte, error) {
	l, err := readList(w.store)
	if err != nil {
		return nil, err
	}
	var all [][]byte
	for _, g := range l {
		records, taken, err := g.read(w.store)
		if err != nil {
			return nil, err
		}
		all = append(all, records...)
		w.used = taken
	}
	w.segments, w.records = l, len(all)
	return all, nil
}

// begin begins a segment behind the others, at once; with an error, there is none.
func (w *Wal) begin() error {
	err := w.change()
	// Without power nothing is dropped: the store stays as the power left it.
	if err != nil && !errors.Is(err, api.ErrDark) {
		w.store.Drop()
	}
	return err
}

// change stages a new segment behind the others, and commits it.
func (w *Wal) change() error {
	next, err := following(w.segments)
	if err != nil {
		return err
	}
	l, steps := w.closed()
	if len(l) == maxSegments {
		return failed("count the segments", api.ErrFull)
	}
	l = append(l, next)
	steps = append(steps, removeFile(w.store, listName), putList(w.store, l), makeLog(w.store, next), step{"commit", w.store.Commit})
	if err := inOrder(steps...); err != nil {
		return err
	}
	w.segments, w.used = l, 0
	return nil
}

// closed are the segments, with the last one closed; if it is open and has no record it is left out, and its log is to be removed.
func (w *Wal) closed() ([]segment, []step) {
	l := slices.Clone(w.segments)
	at := len(l) - 1
	if at < 0 || !l[at].isOpen() {
		return l, nil
	}
	if w.used == 0 {
		return l[:at], []step{removeFile(w.store, l[at].logName())}
	}
	l[at].used = w.used
	return l, nil
}
