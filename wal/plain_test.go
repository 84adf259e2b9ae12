package wal_test

import (
	"hash/crc32"
	"slices"
	"strconv"
	"strings"

	"barograph/api"
	"barograph/extent"
	"barograph/frame"
	"barograph/wal"
)

// This file has what the chapter says of the calls, word for word and without haste; the other tests hold the package against it.

// The calls have these signatures.
var (
	_ func(*extent.Store) (*wal.Wal, api.Errno)           = wal.Begin
	_ func(*extent.Store) (*wal.Wal, [][]byte, api.Errno) = wal.Open
	_ func(*wal.Wal, []byte) api.Errno                    = (*wal.Wal).Append
	_ func(*wal.Wal) api.Errno                            = (*wal.Wal).Sync
	_ func(*wal.Wal) int                                  = (*wal.Wal).Records
	_ func(*wal.Wal) int                                  = (*wal.Wal).Segments
)

// dice are numbers without a pattern, the same ones at every run.
type dice uint64

func (d *dice) number() uint64 {
	*d = *d*6364136223846793005 + 1442695040888963407
	return uint64(*d)>>33 ^ uint64(*d)<<31
}

func (d *dice) below(n int) int { return int(d.number() >> 3 % uint64(n)) }

func (d *dice) bytes(n int) []byte {
	b := make([]byte, n)
	for i := range b {
		b[i] = byte(d.number() >> 20)
	}
	return b
}

func (d *dice) bools(n int) []bool {
	b := make([]bool, n)
	for i := range b {
		b[i] = d.below(2) == 1
	}
	return b
}

// some are n bytes without a pattern, the same ones at every call with that seed.
func some(n int, seed dice) []byte { return seed.bytes(n) }

// entry is what the list tells of a segment, whether or not it may.
type entry struct {
	number uint64
	used   byte
}

// closed is one with so many sectors, opened one that is open.
func closed(number uint64, used byte) entry { return entry{number, used} }

func opened(number uint64) entry { return entry{number, 255} }

// little are the lowest bytes of a number, the lowest first.
func little(n uint64, bytes int) []byte {
	var b []byte
	for range bytes {
		b, n = append(b, byte(n%256)), n/256
	}
	return b
}

// listOf are the bytes of the file wal.
func listOf(l ...entry) []byte {
	b := little(uint64(len(l)), 2)
	for _, x := range l {
		b = append(append(b, little(x.number, 4)...), x.used)
	}
	return b
}

func value(b []byte) uint64 {
	n := uint64(0)
	for _, c := range slices.Backward(b) {
		n = n*256 + uint64(c)
	}
	return n
}

// entriesOf is what bytes tell; false: it is not what the file wal may tell.
func entriesOf(b []byte) ([]entry, bool) {
	if len(b) < 2 || len(b) != 2+5*int(value(b[:2])) {
		return nil, false
	}
	var l []entry
	for at := 2; at < len(b); at += 5 {
		l = append(l, entry{value(b[at : at+4]), b[at+4]})
	}
	for i, x := range l {
		switch {
		case x.number < 1 || x.number > 1<<31:
			return nil, false
		case i > 0 && x.number <= l[i-1].number:
			return nil, false
		case x.used == 255 && i < len(l)-1:
			return nil, false
		case x.used > 32 && x.used != 255:
			return nil, false
		}
	}
	return l, true
}

func logOf(number uint64) string { return "wal." + strconv.FormatUint(number, 10) }

// sector is one of a record.
func sector(kind byte, segment uint64, number int, piece []byte) []byte {
	b := slices.Concat([]byte{0x42, 0x4c, kind, 0}, little(segment, 4), little(uint64(number), 2), little(uint64(len(piece)), 2), piece)
	return sealed(append(b, make([]byte, 252-len(b))...))
}

// sealed are bytes with their checksum behind them.
func sealed(b []byte) []byte {
	return append(b, little(uint64(crc32.Checksum(b, crc32.MakeTable(crc32.Castagnoli))), 4)...)
}

// framed are the sectors of a record, from one on.
func framed(segment uint64, at int, record []byte) [][]byte {
	pieces := slices.Collect(slices.Chunk(record, 240))
	if len(pieces) <= 1 {
		return [][]byte{sector(1, segment, at, record)}
	}
	var l [][]byte
	for i, piece := range pieces {
		kind := byte(3)
		switch i {
		case 0:
			kind = 2
		case len(pieces) - 1:
			kind = 4
		}
		l = append(l, sector(kind, segment, at+i, piece))
	}
	return l
}

// plain is a log, by the chapter's words.
type plain struct {
	s       *extent.Store
	list    []entry
	used    int
	records int
	noRoom  bool
	dark    bool
}

func isThere(s *extent.Store, name string) bool {
	return slices.ContainsFunc(s.Files(), func(f api.File) bool { return f.Name == name })
}

func plainBegin(s *extent.Store) (*plain, api.Errno) {
	number := uint64(1)
	if isThere(s, "wal") {
		b, e := s.Get("wal")
		if e == api.ErrDark {
			return nil, api.ErrDark
		}
		if l, ok := entriesOf(b); e == api.OK && ok && len(l) > 0 {
			number = l[len(l)-1].number + 1
		}
		if e := s.Remove("wal"); e != api.OK {
			return nil, e
		}
		for _, f := range s.Files() {
			if strings.HasPrefix(f.Name, "wal.") {
				if e := s.Remove(f.Name); e != api.OK {
					return nil, e
				}
			}
		}
	}
	if number > 1<<31 {
		return nil, api.ErrFull
	}
	e := s.Put("wal", listOf(opened(number)))
	if e == api.OK {
		e = s.Make(logOf(number), 32)
	}
	if e == api.ErrExtentMany {
		e = api.ErrFull
	}
	if e != api.OK {
		return nil, e
	}
	return &plain{s: s, list: []entry{opened(number)}}, api.OK
}

// plainRead reads all that there is of a log.
func plainRead(s *extent.Store) (*plain, [][]byte, api.Errno) {
	b, e := s.Get("wal")
	if e != api.OK {
		return nil, nil, e
	}
	l, ok := entriesOf(b)
	if !ok {
		return nil, nil, api.ErrWalForm
	}
	p := &plain{s: s, list: l}
	var all [][]byte
	for _, x := range l {
		n := int(x.used)
		if x.used == 255 {
			n = 32
		}
		var sectors [][]byte
		for i := range n {
			b, e := s.Sector(logOf(x.number), i)
			if e != api.OK {
				return nil, nil, e
			}
			sectors = append(sectors, b)
		}
		records, taken := frame.Scan(uint32(x.number), sectors)
		if x.used != 255 && taken != int(x.used) {
			return nil, nil, api.ErrWalForm
		}
		all, p.used = append(all, records...), taken
	}
	p.records = len(all)
	return p, all, api.OK
}

func plainOpen(s *extent.Store) (*plain, [][]byte, api.Errno) {
	p, all, e := plainRead(s)
	if e == api.ErrDark {
		return nil, nil, api.ErrDark
	}
	if e != api.OK {
		return nil, nil, api.ErrWalForm
	}
	e = p.begin()
	if e == api.ErrDark {
		return nil, nil, api.ErrDark
	}
	p.noRoom = e != api.OK
	return p, all, api.OK
}

// begin begins a new segment; another error than ErrDark has the staged changes dropped.
func (p *plain) begin() api.Errno {
	e := p.stage()
	if e != api.OK && e != api.ErrDark {
		p.s.Drop()
	}
	return e
}

func (p *plain) stage() api.Errno {
	next, list := uint64(1), slices.Clone(p.list)
	if n := len(list); n > 0 {
		next = list[n-1].number + 1
		if list[n-1].used == 255 {
			list[n-1].used = byte(p.used)
			if p.used == 0 {
				if e := p.s.Remove(logOf(list[n-1].number)); e != api.OK {
					return e
				}
				list = list[:n-1]
			}
		}
	}
	if next > 1<<31 || len(list) == 65535 {
		return api.ErrFull
	}
	list = append(list, opened(next))
	for _, do := range []func() api.Errno{
		func() api.Errno { return p.s.Remove("wal") },
		func() api.Errno { return p.s.Put("wal", listOf(list...)) },
		func() api.Errno { return p.s.Make(logOf(next), 32) },
		p.s.Commit,
	} {
		if e := do(); e != api.OK {
			return e
		}
	}
	p.list, p.used = list, 0
	return api.OK
}

func (p *plain) append(record []byte) api.Errno {
	switch {
	case p.dark:
		return api.ErrDark
	case len(record) > 7680:
		return api.ErrFrameLong
	case p.noRoom:
		return api.ErrFull
	}
	e := p.write(record)
	p.dark = e == api.ErrDark
	if e == api.ErrExtentMany {
		return api.ErrFull
	}
	return e
}

func (p *plain) write(record []byte) api.Errno {
	if p.used+len(framed(1, 0, record)) > 32 {
		if e := p.begin(); e != api.OK {
			return e
		}
	}
	number := p.list[len(p.list)-1].number
	for i, b := range framed(number, p.used, record) {
		if e := p.s.Set(logOf(number), p.used+i, b); e != api.OK {
			return e
		}
	}
	p.used += len(framed(1, 0, record))
	p.records++
	return api.OK
}

func (p *plain) sync() api.Errno { return p.s.Flush() }
