package extent_test

import (
	"bytes"
	"regexp"
	"slices"
	"strings"

	"barograph/api"
	"barograph/disk"
)

// plain is the chapter's description, word for word, on a disk of its own: it keeps lists, and looks through them.
type plain struct {
	d           *disk.Disk
	slot        int
	generation  uint64
	home        []int
	files, next []plainFile
	dark        bool
}

type plainFile struct {
	name string
	log  bool
	size int
	sum  uint32
	at   []int
}

func byName(f, g plainFile) int { return strings.Compare(f.name, g.name) }

func find(l []plainFile, name string) int {
	return slices.IndexFunc(l, func(f plainFile) bool { return f.name == name })
}

var validNames = regexp.MustCompile(`^[a-z0-9.-]{1,32}$`)

func validName(name string) bool { return validNames.MatchString(name) }

// runsIn are those of a list of sectors.
func runsIn(at []int) []span {
	var runs []span
	for i := 0; i < len(at); {
		n := 1
		for i+n < len(at) && at[i+n] == at[i]+n {
			n++
		}
		runs = append(runs, span{at[i], n})
		i += n
	}
	return runs
}

// done notes whether an operation found no power.
func (p *plain) done(e api.Errno) api.Errno {
	if e == api.ErrDark {
		p.dark = true
	}
	return e
}

func (p *plain) write(at []int, data []byte) api.Errno {
	for i, sector := range at {
		b := make([]byte, 256)
		copy(b, data[min(len(data), 256*i):])
		if p.done(p.d.Write(sector, b)) != api.OK {
			return api.ErrDark
		}
	}
	return api.OK
}

func (p *plain) read(at []int) ([]byte, api.Errno) {
	var data []byte
	for _, sector := range at {
		b, e := p.d.Read(sector)
		if p.done(e) != api.OK {
			return nil, api.ErrDark
		}
		data = append(data, b...)
	}
	return data, api.OK
}

// free are those from 2 on that belong neither to a file, nor to the directory, nor to one of the next files.
func (p *plain) free() []int {
	taken := map[int]int{}
	for _, f := range slices.Concat([]plainFile{{at: p.home}}, p.files, p.next) {
		for _, sector := range f.at {
			taken[sector]++
		}
	}
	var free []int
	for sector := 2; sector < p.d.Sectors(); sector++ {
		if taken[sector] == 0 {
			free = append(free, sector)
		}
	}
	return free
}

func (p *plain) allocate(n int) ([]int, bool) {
	free := p.free()
	if len(free) < n || len(runsIn(free[:n])) > 48 {
		return nil, false
	}
	return free[:n], true
}

func (p *plain) list() []api.File {
	var l []api.File
	for _, f := range p.files {
		l = append(l, api.File{Name: f.name, Log: f.log, Size: f.size, Runs: len(runsIn(f.at))})
	}
	return l
}

func (p *plain) directory() string {
	var l []entry
	for _, f := range p.next {
		kind := byte(0)
		if f.log {
			kind = 1
		}
		l = append(l, entry{f.name, kind, uint32(f.size), f.sum, runsIn(f.at)})
	}
	return directoryOf(l...)
}

func plainFormat(d *disk.Disk) (*plain, api.Errno) {
	if d.Sectors() < 3 {
		return nil, api.ErrFull
	}
	p := &plain{d: d, generation: 1, home: []int{2}}
	dir := p.directory()
	p.write([]int{2}, []byte(dir))
	p.done(d.Flush())
	p.write([]int{0}, []byte(rootOf(1, dir, span{2, 1}).slot()))
	p.write([]int{1}, nil)
	if p.done(d.Flush()) != api.OK {
		return nil, api.ErrDark
	}
	return p, api.OK
}

func (p *plain) get(name string) ([]byte, api.Errno) {
	i := find(p.files, name)
	switch {
	case p.dark:
		return nil, api.ErrDark
	case i < 0:
		return nil, api.ErrExtentNoFile
	case p.files[i].log:
		return nil, api.ErrExtentKind
	}
	data, e := p.read(p.files[i].at)
	if e != api.OK {
		return nil, e
	}
	data = data[:p.files[i].size]
	if checksum(string(data)) != p.files[i].sum {
		return nil, api.ErrExtentForm
	}
	return data, api.OK
}

func (p *plain) put(name string, data []byte) api.Errno {
	if p.dark {
		return api.ErrDark
	}
	if !validName(name) {
		return api.ErrExtentName
	}
	return p.add(plainFile{name: name, size: len(data), sum: checksum(string(data))}, (len(data)+255)/256, data)
}

func (p *plain) make(name string, sectors int) api.Errno {
	if p.dark {
		return api.ErrDark
	}
	if !validName(name) {
		return api.ErrExtentName
	}
	if sectors < 1 || sectors > 16384 {
		return api.ErrArg
	}
	return p.add(plainFile{name: name, log: true, size: sectors}, sectors, nil)
}

func (p *plain) add(f plainFile, sectors int, data []byte) api.Errno {
	if find(p.next, f.name) >= 0 {
		return api.ErrExtentThere
	}
	if len(p.next) == 256 {
		return api.ErrExtentMany
	}
	at, ok := p.allocate(sectors)
	if !ok {
		return api.ErrFull
	}
	if e := p.write(at, data); e != api.OK {
		return e
	}
	f.at = at
	p.next = append(slices.Clone(p.next), f)
	slices.SortFunc(p.next, byName)
	return api.OK
}

func (p *plain) remove(name string) api.Errno {
	i := find(p.next, name)
	switch {
	case p.dark:
		return api.ErrDark
	case i < 0:
		return api.ErrExtentNoFile
	}
	p.next = slices.Delete(slices.Clone(p.next), i, i+1)
	return api.OK
}

func (p *plain) rename(from, to string) api.Errno {
	i := find(p.next, from)
	switch {
	case p.dark:
		return api.ErrDark
	case !validName(to):
		return api.ErrExtentName
	case i < 0:
		return api.ErrExtentNoFile
	case find(p.next, to) >= 0:
		return api.ErrExtentThere
	}
	p.next = slices.Clone(p.next)
	p.next[i].name = to
	slices.SortFunc(p.next, byName)
	return api.OK
}

func (p *plain) commit() api.Errno {
	if p.dark {
		return api.ErrDark
	}
	if p.generation+1 > 1<<62 {
		p.drop()
		return api.ErrExtentMany
	}
	dir := p.directory()
	home, ok := p.allocate((len(dir) + 255) / 256)
	if !ok {
		p.drop()
		return api.ErrFull
	}
	p.write(home, []byte(dir))
	p.done(p.d.Flush())
	p.write([]int{1 - p.slot}, []byte(rootOf(p.generation+1, dir, runsIn(home)...).slot()))
	if p.done(p.d.Flush()) != api.OK {
		return api.ErrDark
	}
	p.slot, p.generation, p.home, p.files = 1-p.slot, p.generation+1, home, p.next
	return api.OK
}

func (p *plain) drop() { p.next = p.files }

func (p *plain) place(name string, i int) (int, api.Errno) {
	k := find(p.files, name)
	switch {
	case p.dark:
		return 0, api.ErrDark
	case k < 0:
		return 0, api.ErrExtentNoFile
	case !p.files[k].log:
		return 0, api.ErrExtentKind
	case i < 0 || i >= p.files[k].size:
		return 0, api.ErrRange
	}
	return p.files[k].at[i], api.OK
}

func (p *plain) sector(name string, i int) ([]byte, api.Errno) {
	at, e := p.place(name, i)
	if e != api.OK {
		return nil, e
	}
	return p.read([]int{at})
}

func (p *plain) set(name string, i int, b []byte) api.Errno {
	at, e := p.place(name, i)
	if e != api.OK {
		return e
	}
	if len(b) != 256 {
		return api.ErrLength
	}
	return p.write([]int{at}, b)
}

func (p *plain) flush() api.Errno {
	if p.dark {
		return api.ErrDark
	}
	return p.done(p.d.Flush())
}

// cursor goes through bytes; it is bad when it needs more than there are.
type cursor struct {
	rest string
	bad  bool
}

func (c *cursor) text(n int) string {
	if n > len(c.rest) {
		c.bad, c.rest = true, ""
		return ""
	}
	s := c.rest[:n]
	c.rest = c.rest[n:]
	return s
}

func (c *cursor) number(bytes int) uint64 {
	var n uint64
	for _, b := range slices.Backward([]byte(c.text(bytes))) {
		n = n*256 + uint64(b)
	}
	return n
}

func (c *cursor) spans() []span {
	var runs []span
	for range c.number(2) {
		runs = append(runs, span{int(c.number(2)), int(c.number(2))})
		if c.bad {
			break
		}
	}
	return runs
}

// denoted are the sectors of runs; false: they are not as a readable slot has them.
func denoted(runs []span, sectors int) ([]int, bool) {
	var at []int
	for _, r := range runs {
		if r.length < 1 || r.first < 2 || r.first+r.length > sectors {
			return nil, false
		}
		for i := range r.length {
			at = append(at, r.first+i)
		}
	}
	return at, len(runs) <= 48 && !twice(at)
}

func twice(at []int) bool {
	seen := map[int]int{}
	for _, sector := range at {
		seen[sector]++
	}
	return len(seen) < len(at)
}

func touching(runs []span) bool {
	for i := 1; i < len(runs); i++ {
		if runs[i-1].first+runs[i-1].length == runs[i].first {
			return true
		}
	}
	return false
}

// judged is what is to be found of a slot.
type judged struct {
	magic, readable, good bool
	p                     plain
}

// judge looks at a slot of an image as the chapter does.
func judge(image []byte, number int) judged {
	var j judged
	slot, sectors := string(image[256*number:256*number+256]), len(image)/256
	j.magic = slot[:4] == "BGX1"
	c := &cursor{rest: slot[4:252]}
	j.p.slot, j.p.generation = number, c.number(8)
	length, sum := int(c.number(4)), uint32(c.number(4))
	runs := c.spans()
	home, ok := denoted(runs, sectors)
	j.p.home = home
	j.readable = j.magic && !c.bad && ok && checksum(slot[:252]) == uint32((&cursor{rest: slot[252:]}).number(4)) &&
		len(home) >= 1 && len(home) == (length+255)/256 && strings.Trim(c.rest, "\x00") == ""
	if !j.readable {
		return j
	}
	var all []byte
	for _, at := range home {
		all = append(all, image[256*at:256*at+256]...)
	}
	files, ok := listed(string(all[:length]), sectors)
	j.p.files, j.p.next = files, files
	for _, f := range files {
		home = append(slices.Clone(home), f.at...)
	}
	j.good = ok && !touching(runs) && checksum(string(all[:length])) == sum && len(bytes.Trim(all[length:], "\x00")) == 0 && !twice(home)
	return j
}

// listed are the files of a directory; false: it has not the form.
func listed(dir string, sectors int) ([]plainFile, bool) {
	c := &cursor{rest: dir}
	count := int(c.number(2))
	if count > 256 {
		return nil, false
	}
	var l []plainFile
	for range count {
		f := plainFile{name: c.text(int(c.number(1)))}
		kind := c.number(1)
		f.log, f.size, f.sum = kind == 1, int(c.number(4)), uint32(c.number(4))
		runs := c.spans()
		at, ok := denoted(runs, sectors)
		f.at = at
		size := (f.size + 255) / 256
		if f.log {
			size = f.size
		}
		if c.bad || !ok || touching(runs) || len(at) != size || kind > 1 || !validName(f.name) {
			return nil, false
		}
		if f.log && (f.sum != 0 || f.size < 1 || f.size > 16384) || len(l) > 0 && l[len(l)-1].name >= f.name {
			return nil, false
		}
		l = append(l, f)
	}
	return l, !c.bad && c.rest == ""
}

// plainOpen reads a disk whose cache is empty.
func plainOpen(d *disk.Disk) (*plain, api.Errno) {
	if d.Sectors() == 1 {
		return nil, api.ErrExtentNone
	}
	var slots [2]judged
	p := &plain{d: d}
	p.read([]int{0, 1})
	for i := range slots {
		slots[i] = judge(d.Image(), i)
		if slots[i].readable {
			p.read(slots[i].p.home)
		}
	}
	best := slots[0].p
	switch {
	case p.dark:
		return nil, api.ErrDark
	case !slots[0].magic && !slots[1].magic:
		return nil, api.ErrExtentNone
	case !slots[0].good && !slots[1].good:
		return nil, api.ErrExtentForm
	case !slots[0].good || slots[1].good && slots[1].p.generation > slots[0].p.generation:
		best = slots[1].p
	}
	best.d = d
	return &best, api.OK
}

// dice are numbers without a pattern, the same ones at every run.
type dice uint64

func (d *dice) below(n int) int {
	*d = *d*6364136223846793005 + 1442695040888963407
	return int(uint64(*d) >> 33 % uint64(n))
}

func (d *dice) bytes(n int) []byte {
	b := make([]byte, n)
	for i := range b {
		b[i] = byte(d.below(256))
	}
	return b
}

func (d *dice) bools(n int) []bool {
	b := make([]bool, n)
	for i := range b {
		b[i] = d.below(2) == 1
	}
	return b
}
