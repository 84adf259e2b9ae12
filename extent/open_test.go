package extent_test

import (
	"fmt"
	"math"
	"slices"
	"strings"
	"testing"

	"barograph/api"
	"barograph/disk"
	"barograph/extent"
)

// What a slot can be.
type verdict int

const (
	foreign verdict = iota // it does not begin with BGX1
	unreadable
	readable // but not good
	good
)

// The disks of these tests; the spare sector is for the directory of the other slot.
const (
	sectorCount = 128
	spare       = 120
)

// picture is a slot with its directory, and what is to be found of it.
type picture struct {
	what    string
	root    root
	verdict verdict
	files   []entry // of a good one
}

// listOf is what Files answers for these.
func listOf(files []entry) []api.File {
	var l []api.File
	for _, f := range files {
		l = append(l, api.File{Name: f.name, Log: f.kind == 1, Size: int(f.size), Runs: len(f.runs)})
	}
	return l
}

// opens holds what Open answers, and how many sectors it reads for that.
func opens(t *testing.T, what string, image []byte, want api.Errno, files []api.File, reads int) *extent.Store {
	t.Helper()
	d := loaded(t, image)
	s, e := extent.Open(d)
	if e != want || (s == nil) != (want != api.OK) {
		t.Errorf("%s: Open: %v, want %v", what, e, want)
		return nil
	}
	countsAre(t, d, reads, 0, 0)
	if s != nil && !slices.Equal(s.Files(), files) {
		t.Errorf("%s: %d files, %.300s; want %d, %.300s", what, len(s.Files()), fmt.Sprint(s.Files()), len(files), fmt.Sprint(files))
	}
	return s
}

// alone is what Open answers where the other slot is zeros.
func (x picture) alone() api.Errno {
	switch x.verdict {
	case foreign:
		return api.ErrExtentNone
	case good:
		return api.OK
	}
	return api.ErrExtentForm
}

// reads are those that the slot and its directory need.
func (x picture) reads() int {
	if x.verdict < readable {
		return 1
	}
	return 1 + x.root.sectors()
}

// check opens disks of which one slot is that, beside an empty one, a good one that is older, and one that is newer.
func (x picture) check(t *testing.T) {
	t.Helper()
	for number := range 2 {
		image := make([]byte, 256*sectorCount)
		x.root.lay(image, number)
		what := fmt.Sprintf("%s, in slot %d", x.what, number)
		opens(t, what, image, x.alone(), listOf(x.files), 1+x.reads())
		if x.uses(spare) {
			continue
		}
		for _, generation := range []uint64{x.root.generation - 1, x.root.generation + 1} {
			rootOf(generation, directoryOf(entry{name: "other"}), span{spare, 1}).lay(image, 1-number)
			files := []api.File{{Name: "other"}}
			if x.verdict == good && generation < x.root.generation {
				files = listOf(x.files)
			}
			opens(t, what+", beside another one", image, api.OK, files, 2+x.reads())
		}
	}
}

func (x picture) uses(sector int) bool {
	return slices.ContainsFunc(x.root.runs, func(r span) bool { return r.first <= sector && sector < r.first+r.length })
}

// someFiles are three, for what does not hang on them.
func someFiles() []entry {
	return []entry{
		{"a", 0, 300, 0x12345678, []span{{10, 2}}},
		{"b", 1, 3, 0, []span{{20, 1}, {30, 2}}},
		{"c", 0, 0, 0, nil},
	}
}

// ofLength are empty files whose directory has that length, from 100 bytes on.
func ofLength(n int) []entry {
	var l []entry
	count := (n - 2 + 43) / 44
	for i := range count {
		size := (n-2)/count - 12
		if i < (n-2)%count {
			size++
		}
		l = append(l, entry{name: fmt.Sprintf("%0*d", size, i)})
	}
	slices.SortFunc(l, func(f, g entry) int { return strings.Compare(f.name, g.name) })
	return l
}

// slotted is a picture of some files whose slot is changed.
func slotted(what string, v verdict, change func(r *root)) picture {
	x := picture{what, rootOf(5, directoryOf(someFiles()...), span{5, 1}), v, someFiles()}
	change(&x.root)
	return x
}

// spread is a picture of a directory of that length in these runs.
func spread(v verdict, length int, runs ...span) picture {
	files := ofLength(length)
	return picture{fmt.Sprintf("%d bytes in %v", length, runs), rootOf(5, directoryOf(files...), runs...), v, files}
}

// written is a picture of a directory with these bytes.
func written(what string, v verdict, dir string, files ...entry) picture {
	return picture{what, rootOf(5, dir, span{5, 1}), v, files}
}

// holding is a picture of a directory of these files.
func holding(v verdict, files ...entry) picture {
	return written(fmt.Sprintf("%+v", files), v, directoryOf(files...), files...)
}

func TestSlotsBegin(t *testing.T) {
	slotted("as it is to be", good, func(*root) {}).check(t)
	for _, magic := range []string{"\x00\x00\x00\x00", "XGX1", "BXX1", "BGx1", "BGX2", "BGX0", "bgx1", "1XGB", "BGX\x00"} {
		slotted("magic "+magic, foreign, func(r *root) { r.magic = magic }).check(t)
	}
}

// A slot of which any bit is another one is not readable.
func TestSlotsWithAnotherSum(t *testing.T) {
	for bit := range 32 {
		slotted("sum", unreadable, func(r *root) { r.end = 1 << bit }).check(t)
	}
	image := make([]byte, 256*sectorCount)
	slotted("", good, func(*root) {}).root.lay(image, 1)
	for bit := range 256 * 8 {
		image[256+bit/8] ^= 1 << (bit % 8)
		want := api.ErrExtentForm
		if bit < 4*8 {
			want = api.ErrExtentNone
		}
		opens(t, fmt.Sprintf("bit %d", bit), image, want, nil, 2)
		image[256+bit/8] ^= 1 << (bit % 8)
	}
}

func TestSlotsWithAnotherCountOfRuns(t *testing.T) {
	for _, count := range []int{0, 2, 3, 48, 49, 255, 256, 65535} {
		slotted(fmt.Sprintf("%d runs told", count), unreadable, func(r *root) { r.count = count }).check(t)
	}
	for _, length := range []int{0, 1, 256} {
		slotted("no runs", unreadable, func(r *root) { r.count, r.runs, r.length = 0, nil, length }).check(t)
	}
	for _, length := range []int{0, 257, 512, 1 << 16, 1 << 22, 1<<22 + 1, 1<<31 + 5, math.MaxUint32 - 255, math.MaxUint32} {
		slotted(fmt.Sprintf("length %d", length), unreadable, func(r *root) { r.length = length }).check(t)
	}
}

// singles are runs of one sector, with one left out behind each.
func singles(first, n int) []span {
	var runs []span
	for i := range n {
		runs = append(runs, span{first + 2*i, 1})
	}
	return runs
}

// oneSectorEach are n files, of which some have a sector.
func oneSectorEach(n, withSector, first int) []entry {
	var l []entry
	for i := range n {
		f := entry{name: fmt.Sprintf("%032d", i)}
		if i < withSector {
			f.size, f.runs = 1, []span{{first + i, 1}}
		}
		l = append(l, f)
	}
	return l
}

// A directory is in 1 to 48 runs; that of the most files is long enough for more.
func TestSlotsOfManyRuns(t *testing.T) {
	for _, x := range []struct {
		withSector, runs int
		want             api.Errno
	}{{150, 47, api.OK}, {200, 48, api.OK}, {256, 49, api.ErrExtentForm}} {
		files := oneSectorEach(256, x.withSector, 200)
		image := make([]byte, 256*600)
		r := rootOf(5, directoryOf(files...), singles(2, x.runs)...)
		if got := (r.length + 255) / 256; got != x.runs {
			t.Fatalf("a directory of %d sectors, want %d", got, x.runs)
		}
		r.lay(image, 1)
		if x.runs <= 48 {
			s := opens(t, "many runs", image, x.want, listOf(files), 2+x.runs)
			freeIs(t, s, 598-x.runs-x.withSector)
			continue
		}
		opens(t, "too many runs", image, x.want, nil, 2)
		image = make([]byte, 256*600)
		rootOf(5, r.dir, append(singles(2, 47), span{150, 2})...).lay(image, 1) // as many sectors, in 48 runs
		opens(t, "not too many", image, api.OK, listOf(files), 2+49)
	}
}

func TestRunsOfSlots(t *testing.T) {
	for _, x := range []picture{
		spread(good, 256, span{5, 1}), spread(unreadable, 256, span{5, 2}), spread(unreadable, 257, span{5, 1}),
		spread(good, 257, span{5, 2}), spread(unreadable, 257, span{5, 3}), spread(good, 512, span{5, 2}),
		spread(unreadable, 513, span{5, 2}), spread(good, 513, span{5, 3}), spread(good, 513, span{9, 1}, span{5, 2}),
		// of no sector
		spread(unreadable, 200, span{5, 0}), spread(unreadable, 200, span{5, 1}, span{9, 0}), spread(unreadable, 200, span{9, 0}, span{5, 1}),
		spread(unreadable, 200, span{0, 0}, span{5, 1}), spread(unreadable, 200, span{5, 1}, span{0, 0}),
		// at the bounds of the disk
		spread(good, 200, span{2, 1}), spread(unreadable, 200, span{1, 1}), spread(unreadable, 200, span{0, 1}),
		spread(good, 500, span{2, 2}), spread(unreadable, 500, span{1, 2}), spread(unreadable, 700, span{0, 3}),
		spread(unreadable, 500, span{5, 1}, span{1, 1}), spread(good, 500, span{5, 1}, span{2, 1}),
		spread(good, 200, span{127, 1}), spread(unreadable, 200, span{128, 1}), spread(unreadable, 500, span{127, 2}),
		spread(good, 500, span{126, 2}), spread(unreadable, 200, span{65535, 1}), spread(unreadable, 200, span{2, 65535}),
		spread(unreadable, 200, span{65535, 65535}), spread(unreadable, 200, span{5, 256}), spread(unreadable, 200, span{256, 1}),
		spread(unreadable, 500, span{5, 1}, span{128, 1}),
		// twice
		spread(unreadable, 500, span{5, 1}, span{5, 1}), spread(unreadable, 700, span{5, 2}, span{6, 1}), spread(unreadable, 700, span{6, 1}, span{5, 2}),
		spread(unreadable, 700, span{5, 1}, span{9, 1}, span{5, 1}), spread(unreadable, 1000, span{5, 2}, span{5, 2}),
		// one begins where the one before it ends: readable, but not good
		spread(readable, 500, span{5, 1}, span{6, 1}), spread(readable, 700, span{5, 2}, span{7, 1}), spread(readable, 700, span{5, 1}, span{6, 2}),
		spread(readable, 700, span{5, 1}, span{6, 1}, span{9, 1}), spread(readable, 700, span{9, 1}, span{5, 1}, span{6, 1}),
		spread(good, 500, span{6, 1}, span{5, 1}), spread(good, 700, span{7, 1}, span{5, 2}), spread(good, 700, span{5, 1}, span{9, 1}, span{6, 1}),
	} {
		x.check(t)
	}
}

func TestBytesBehindTheRunsOfASlot(t *testing.T) {
	for at := 26; at < 252; at++ {
		slotted(fmt.Sprintf("byte %d", at), unreadable, func(r *root) { r.behind = zeros(at-26) + "\x01" }).check(t)
	}
	for _, c := range []string{"\x80", "\xff", "\x00\x00\x10"} {
		slotted("bytes behind", unreadable, func(r *root) { r.behind = c }).check(t)
	}
}

func TestDirectoriesThatAreCutShort(t *testing.T) {
	dir := directoryOf(someFiles()...)
	for n := 1; n < len(dir); n++ {
		written(fmt.Sprintf("%d bytes", n), readable, dir[:n]).check(t)
	}
	for _, more := range []string{"\x00", "\x01", zeros(20), "a", entry{name: "d"}.bytes()} {
		written("more behind", readable, dir+more).check(t)
	}
	for _, count := range []int{0, 1, 2, 4, 5, 255, 256, 257, 65535} {
		written(fmt.Sprintf("%d files told", count), readable, little(count, 2)+dir[2:]).check(t)
	}
	holding(good).check(t)
	written("more than no file", readable, "\x00\x00\x00").check(t)
}

// The length and the sum that a slot tells are those of the directory.
func TestDirectoriesThatAreOthers(t *testing.T) {
	dir := directoryOf(someFiles()...)
	for bit := range 32 {
		slotted("sum", readable, func(r *root) { r.sum ^= 1 << bit }).check(t)
	}
	for _, length := range []int{1, 2, len(dir) - 1, len(dir) + 1, 256} {
		slotted(fmt.Sprintf("length %d", length), readable, func(r *root) { r.length = length }).check(t)
		right := (dir + zeros(256))[:length]
		slotted(fmt.Sprintf("length %d, its sum", length), readable, func(r *root) { r.length, r.sum = length, checksum(right) }).check(t)
	}
	for at := range dir {
		other := []byte(dir)
		other[at] ^= 1
		slotted(fmt.Sprintf("byte %d", at), readable, func(r *root) { r.dir = string(other) }).check(t)
	}
	for at := len(dir); at < 256; at++ {
		slotted(fmt.Sprintf("byte %d behind", at), readable, func(r *root) { r.dir += zeros(at-len(dir)) + "\x01" }).check(t)
	}
	far := spread(readable, 257, span{9, 1}, span{5, 1})
	far.root.dir += zeros(254) + "\x80" // the last byte of its last sector
	far.check(t)
}

// A directory has at most 256 files.
func TestDirectoriesOfManyFiles(t *testing.T) {
	for n := 255; n <= 257; n++ {
		files := oneSectorEach(n, 0, 0)
		dir := directoryOf(files...)
		x := picture{fmt.Sprintf("%d files", n), rootOf(5, dir, span{5, (len(dir) + 255) / 256}), good, files}
		if n > 256 {
			x.verdict = readable
		}
		x.check(t)
	}
}

func TestKindsAndSums(t *testing.T) {
	for kind := range 256 {
		f := entry{"a", byte(kind), 1, 0, []span{{10, 1}}}
		v := readable
		if kind <= 1 {
			v = good
		}
		holding(v, f).check(t)
	}
	for _, sum := range []uint32{0, 1, 0x80000000, 0xffffffff} {
		v := readable
		if sum == 0 {
			v = good
		}
		holding(v, entry{"a", 1, 1, sum, []span{{10, 1}}}).check(t)
		holding(good, entry{"a", 0, 1, sum, []span{{10, 1}}}).check(t) // what a file holds is not read
		holding(good, entry{"a", 0, 0, sum, nil}).check(t)
	}
}

func TestNamesInDirectories(t *testing.T) {
	for c := range 256 {
		v := readable
		if strings.IndexByte("abcdefghijklmnopqrstuvwxyz0123456789.-", byte(c)) >= 0 {
			v = good
		}
		for _, name := range []string{"%", "%a", "a%", "a%a", "%" + longest[1:], longest[1:] + "%"} {
			holding(v, entry{name: strings.ReplaceAll(name, "%", string([]byte{byte(c)}))}).check(t)
		}
	}
	for _, x := range []struct {
		names string
		verdict
	}{
		{longest, good}, {longest + "x", readable}, {longest + longest + longest, readable}, {",", readable}, {",a", readable},
		{"a,a", readable}, {"a,b", good}, {"b,a", readable}, {"a,ab", good}, {"ab,a", readable}, {"a-,a.", good}, {"a.,a-", readable},
		{"9,a", good}, {"a,9", readable}, {"a,c,b", readable}, {"b,c,a", readable}, {"a,b,b", readable}, {"a,b,a", readable}, {"a,b,c", good},
		{"aa,b", good}, {"b,aa", readable}, {longest + "," + longest, readable}, {"z,zz,zzz", good},
	} {
		var files []entry
		for _, name := range strings.Split(x.names, ",") {
			files = append(files, entry{name: name})
		}
		holding(x.verdict, files...).check(t)
	}
}

func TestSizesAndRuns(t *testing.T) {
	for _, x := range []struct {
		kind byte
		size uint32
		runs []span
		verdict
	}{
		{0, 0, nil, good}, {0, 0, []span{{10, 1}}, readable}, {0, 1, nil, readable}, {0, 1, []span{{10, 1}}, good},
		{0, 1, []span{{10, 2}}, readable}, {0, 255, []span{{10, 1}}, good}, {0, 256, []span{{10, 1}}, good}, {0, 257, []span{{10, 1}}, readable},
		{0, 256, []span{{10, 2}}, readable}, {0, 257, []span{{10, 2}}, good}, {0, 512, []span{{10, 2}}, good}, {0, 513, []span{{10, 3}}, good},
		{0, 513, []span{{10, 1}, {20, 1}, {30, 1}}, good}, {0, 512, []span{{10, 1}, {20, 1}, {30, 1}}, readable}, {0, 25600, []span{{10, 100}}, good},
		{0, math.MaxUint32, []span{{10, 1}}, readable}, {0, math.MaxUint32 - 254, nil, readable}, {0, math.MaxUint32 - 255, nil, readable},
		{0, math.MaxUint32, nil, readable}, {0, 1<<31 + 1, []span{{10, 1}}, readable}, {0, 1<<16 + 1, []span{{10, 1}}, readable},
		{1, 0, nil, readable}, {1, 0, []span{{10, 1}}, readable}, {1, 1, nil, readable}, {1, 1, []span{{10, 1}}, good},
		{1, 1, []span{{10, 2}}, readable}, {1, 2, []span{{10, 1}}, readable}, {1, 2, []span{{10, 2}}, good}, {1, 2, []span{{10, 1}, {20, 1}}, good},
		{1, 3, []span{{20, 1}, {10, 2}}, good}, {1, 100, []span{{10, 100}}, good}, {1, 256, []span{{10, 1}}, readable},
		{1, 16384, []span{{10, 1}}, readable}, {1, 16384, []span{{2, 16384}}, readable}, {1, 16385, []span{{2, 16385}}, readable},
		{1, 65536, nil, readable}, {1, 65537, []span{{10, 1}}, readable}, {1, math.MaxUint32, []span{{10, 1}}, readable},
		// of no sector
		{0, 0, []span{{10, 0}}, readable}, {0, 1, []span{{10, 1}, {20, 0}}, readable}, {0, 1, []span{{20, 0}, {10, 1}}, readable}, {1, 1, []span{{0, 0}, {10, 1}}, readable},
		// at the bounds of the disk
		{0, 1, []span{{2, 1}}, good}, {0, 1, []span{{1, 1}}, readable}, {0, 1, []span{{0, 1}}, readable}, {1, 2, []span{{1, 2}}, readable}, {1, 2, []span{{0, 2}}, readable},
		{0, 1, []span{{127, 1}}, good}, {1, 1, []span{{128, 1}}, readable}, {1, 2, []span{{127, 2}}, readable}, {1, 2, []span{{126, 2}}, good},
		{0, 1, []span{{65535, 1}}, readable}, {0, 1, []span{{10, 65535}}, readable}, {0, 1, []span{{65535, 65535}}, readable}, {0, 1, []span{{10, 256}}, readable},
		// twice
		{0, 512, []span{{10, 1}, {10, 1}}, readable}, {0, 768, []span{{10, 2}, {11, 1}}, readable}, {1, 3, []span{{11, 1}, {10, 2}}, readable},
		// one begins where the one before it ends
		{0, 512, []span{{10, 1}, {11, 1}}, readable}, {1, 3, []span{{20, 1}, {10, 1}, {11, 1}}, readable}, {1, 3, []span{{10, 2}, {12, 1}}, readable}, {0, 512, []span{{11, 1}, {10, 1}}, good},
		// of the directory
		{0, 1, []span{{5, 1}}, readable}, {0, 512, []span{{4, 2}}, readable}, {1, 2, []span{{5, 2}}, readable}, {1, 3, []span{{4, 3}}, readable}, {1, 2, []span{{6, 2}}, good}, {1, 2, []span{{3, 2}}, good},
		// how many
		{0, 256 * 47, singles(10, 47), good}, {0, 256 * 48, singles(10, 48), good}, {0, 256 * 49, singles(10, 49), readable}, {1, 48, singles(10, 48), good}, {1, 49, singles(10, 49), readable},
	} {
		sum := uint32(0xabcdef01)
		if x.kind == 1 {
			sum = 0
		}
		holding(x.verdict, entry{"a", x.kind, x.size, sum, x.runs}).check(t)
	}
	f := entry{"a", 0, 1, 0, []span{{10, 1}}}.bytes()
	for _, count := range []int{0, 2, 49, 65535} {
		written(fmt.Sprintf("%d runs told", count), readable, "\x01\x00"+f[:len(f)-6]+little(count, 2)+f[len(f)-4:]).check(t)
	}
}

func TestSectorsOfTwoFiles(t *testing.T) {
	a := entry{"a", 0, 600, 0, []span{{10, 2}, {20, 1}}}
	for _, x := range []struct {
		b entry
		verdict
	}{
		{entry{"b", 0, 1, 0, []span{{12, 1}}}, good}, {entry{"b", 0, 1, 0, []span{{9, 1}}}, good}, {entry{"b", 1, 1, 0, []span{{19, 1}}}, good},
		{entry{"b", 0, 1, 0, []span{{10, 1}}}, readable}, {entry{"b", 0, 1, 0, []span{{11, 1}}}, readable}, {entry{"b", 1, 1, 0, []span{{20, 1}}}, readable},
		{entry{"b", 1, 2, 0, []span{{9, 2}}}, readable}, {entry{"b", 1, 20, 0, []span{{6, 20}}}, readable}, {entry{"b", 1, 2, 0, []span{{30, 1}, {20, 1}}}, readable},
		{a, readable},
	} {
		x.b.name = "b"
		holding(x.verdict, a, x.b).check(t)
		holding(x.verdict, a, entry{name: "aa"}, x.b).check(t)
	}
	holding(good, entry{"a", 0, 1, 0, []span{{spare, 1}}}).checkShared(t)
}

// checkShared is for a file that has the sector of the other slot's directory: that is no fault of either.
func (x picture) checkShared(t *testing.T) {
	t.Helper()
	image := make([]byte, 256*sectorCount)
	x.root.lay(image, 0)
	rootOf(x.root.generation-1, directoryOf(entry{name: "other"}), span{spare, 1}).lay(image, 1)
	opens(t, "a sector of the older directory", image, api.OK, listOf(x.files), 4)
	rootOf(x.root.generation+1, directoryOf(entry{name: "other"}), span{spare, 1}).lay(image, 1)
	opens(t, "a sector of the newer directory", image, api.OK, []api.File{{Name: "other"}}, 4)
}

// A log may have all sectors but those of the slots and of the directory.
func TestLogOfAWholeDisk(t *testing.T) {
	for _, x := range []struct {
		size  uint32
		first int
		want  api.Errno
	}{{16381, 3, api.OK}, {16382, 2, api.ErrExtentForm}, {16382, 3, api.ErrExtentForm}, {16384, 0, api.ErrExtentForm}, {16385, 0, api.ErrExtentForm}} {
		image := make([]byte, 256*16384)
		f := []entry{{"log", 1, x.size, 0, []span{{x.first, int(x.size)}}}}
		rootOf(1, directoryOf(f...), span{2, 1}).lay(image, 0)
		opens(t, fmt.Sprintf("a log of %d sectors", x.size), image, x.want, listOf(f), 3)
	}
}

// Of two good slots, the one with the greater generation is taken, by all of its 64 bits; the next commit goes to the other one.
func TestGenerations(t *testing.T) {
	generations := []uint64{0, 1, 2, 3, 255, 256, 1 << 31, 1 << 32, 1<<62 - 2, 1<<62 - 1, 1 << 62, 1<<62 + 1, 1<<63 - 1, 1 << 63, math.MaxUint64 - 1, math.MaxUint64}
	for _, zero := range generations {
		for _, one := range generations {
			image := make([]byte, 256*12)
			rootOf(zero, directoryOf(entry{name: "zero"}), span{4, 1}).lay(image, 0)
			rootOf(one, directoryOf(entry{name: "one"}), span{5, 1}).lay(image, 1)
			name, home, current, generation := "zero", 4, 0, zero
			if one > zero {
				name, home, current, generation = "one", 5, 1, one
			}
			what := fmt.Sprintf("generations %d and %d", zero, one)
			opens(t, what, image, api.OK, []api.File{{Name: name}}, 4)
			nextGeneration(t, what, loaded(t, image), root{generation: generation, dir: directoryOf(entry{name: name}), runs: []span{{home, 1}}}, current)
		}
	}
}

// nextGeneration commits behind Open, and holds where that goes; of the root before, only these are told: generation, directory, and its run.
func nextGeneration(t *testing.T, what string, d *disk.Disk, before root, current int) {
	t.Helper()
	s := opened(t, d)
	freeIs(t, s, 9)
	old := d.Image()
	if before.generation >= 1<<62 {
		must(t, s.Put("x", nil))
		idle(t, d, what+": Commit", api.ErrExtentMany, s.Commit)
		errorIs(t, "Remove of what was staged", s.Remove("x"), api.ErrExtentNoFile)
		return
	}
	errorIs(t, what+": Commit", s.Commit(), api.OK)
	pendingIs(t, d)
	image := d.Image()
	rootOf(before.generation+1, before.dir, span{2, 1}).lay(old, 1-current)
	if !slices.Equal(image, old) {
		t.Errorf("%s: the commit has written something else", what)
	}
	freeIs(t, s, 9)
}

func TestGenerationsEnd(t *testing.T) {
	image := make([]byte, 256*12)
	rootOf(1<<62-1, directoryOf(), span{4, 1}).lay(image, 1)
	d := loaded(t, image)
	s := opened(t, d)
	must(t, s.Put("a", []byte("a")), s.Commit()) // its generation is 2^62
	must(t, s.Put("b", []byte("b")), s.Remove("a"))
	freeIs(t, s, 7)
	idle(t, d, "Commit", api.ErrExtentMany, s.Commit)
	namesAre(t, s, "a")
	freeIs(t, s, 8)
	idle(t, d, "Commit", api.ErrExtentMany, s.Commit)
	errorIs(t, "Remove of b", s.Remove("b"), api.ErrExtentNoFile)
	must(t, s.Remove("a"), s.Put("a", nil))
	s = opened(t, d)
	namesAre(t, s, "a")
	idle(t, d, "Commit", api.ErrExtentMany, s.Commit)
	holds(t, s, "a", []byte("a"))
}

// No room is told behind the end of the generations.
func TestGenerationsEndOnAFullDisk(t *testing.T) {
	for generation, want := range map[uint64]api.Errno{1<<62 - 1: api.ErrFull, 1 << 62: api.ErrExtentMany} {
		image := make([]byte, 256*3)
		rootOf(generation, directoryOf(), span{2, 1}).lay(image, 0)
		d := loaded(t, image)
		idle(t, d, "Commit", want, opened(t, d).Commit)
	}
}

func TestOpenOfSmallDisks(t *testing.T) {
	r := rootOf(1, directoryOf(), span{2, 1})
	for sectors := 1; sectors <= 3; sectors++ {
		image := make([]byte, 256*sectors)
		opens(t, "zeros", image, api.ErrExtentNone, nil, 2*min(sectors-1, 1))
		copy(image, r.slot())
		switch sectors {
		case 1:
			opens(t, "one sector", image, api.ErrExtentNone, nil, 0)
		case 2:
			opens(t, "two sectors", image, api.ErrExtentForm, nil, 2)
			copy(image[256:], r.slot())
			opens(t, "two sectors", image, api.ErrExtentForm, nil, 2)
		case 3:
			r.lay(image, 0)
			s := opens(t, "three sectors", image, api.OK, nil, 3)
			freeIs(t, s, 0)
		}
	}
}

// Open reads the directories of both slots, if both are readable; it reads what is in the cache, and writes nothing.
func TestOperationsOfOpen(t *testing.T) {
	image := make([]byte, 256*sectorCount)
	dir := directoryOf(ofLength(700)...)
	rootOf(7, dir, span{9, 1}, span{5, 2}).lay(image, 0)
	rootOf(3, directoryOf(ofLength(500)...), span{20, 2}).lay(image, 1)
	for cached, want := range map[byte][]entry{dir[255]: ofLength(700), dir[255] ^ 1: ofLength(500)} {
		got := operations(t, func() (*disk.Disk, func() api.Errno) {
			d := loaded(t, image)
			must(t, d.Write(9, append([]byte(dir[:255]), cached)))
			return d, func() api.Errno {
				s, e := extent.Open(d)
				if e == api.OK {
					filesAre(t, s, listOf(want)...)
				} else if s != nil {
					t.Error("a store beside an error")
				}
				return e
			}
		})
		if got != "R R R R R R R" {
			t.Errorf("Open: %s", got)
		}
	}
}
