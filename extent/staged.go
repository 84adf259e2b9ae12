package extent

import (
	"slices"

	"barograph/api"
)

// create writes a new file's data, with zeros behind it, and stages the file.
func (s *Store) create(name string, data []byte, f file) api.Errno {
	if _, ok := s.next[name]; ok {
		return api.ErrExtentThere
	}
	if len(s.next) == api.MaxFiles {
		return api.ErrExtentMany
	}
	sectors, e := s.allocate(f.needs())
	if e != api.OK {
		return e
	}
	if e := write(s.d, sectors, data); e != api.OK {
		return e
	}
	f.sectors = sectors
	s.link(name, f)
	return api.OK
}

// link stages that a name that is not among the next files has this one.
func (s *Store) link(name string, f file) {
	s.next[name] = f
	s.undo = append(s.undo, func() { delete(s.next, name) })
}

// unlink stages that a name of the next files has none.
func (s *Store) unlink(name string) {
	f := s.next[name]
	delete(s.next, name)
	s.undo = append(s.undo, func() { s.next[name] = f })
}

// roomOfCommit are the sectors for a directory of so many bytes.
func (s *Store) roomOfCommit(bytes int) ([]int, api.Errno) {
	if s.generation >= lastGeneration {
		return nil, api.ErrExtentMany
	}
	return s.allocate(sectorsFor(bytes))
}

// allocate takes the lowest free sectors.
func (s *Store) allocate(n int) ([]int, api.Errno) {
	free := s.free()
	if n > len(free) || len(runsOf(free[:n])) > api.MaxRuns {
		return nil, api.ErrFull
	}
	return slices.Clone(free[:n]), api.OK // a small file need not hold on to a long list
}

// free are the free sectors, rising. They are found anew each time, so that nothing needs to be kept in step with what is staged and taken back.
func (s *Store) free() []int {
	used := make([]bool, s.d.Sectors())
	use := func(sectors []int) {
		for _, at := range sectors {
			used[at] = true
		}
	}
	use([]int{0, 1})
	use(s.home)
	for _, files := range []directory{s.files, s.next} {
		for _, f := range files {
			use(f.sectors)
		}
	}
	var free []int
	for at, isUsed := range used {
		if !isUsed {
			free = append(free, at)
		}
	}
	return free
}

// place is where a sector of a log lies.
func (s *Store) place(name string, i int) (int, api.Errno) {
	f, ok := s.files[name]
	if !ok {
		return 0, api.ErrExtentNoFile
	}
	if !f.log {
		return 0, api.ErrExtentKind
	}
	if i < 0 || i >= len(f.sectors) {
		return 0, api.ErrRange
	}
	return f.sectors[i], api.OK
}
