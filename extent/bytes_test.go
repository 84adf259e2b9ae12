package extent_test

import (
	"bytes"
	"encoding/hex"
	"strconv"
	"strings"
	"testing"

	"barograph/api"
	"barograph/disk"
	"barograph/extent"
)

// imageIs holds the durable bytes: each sector that is not told is zeros.
func imageIs(t *testing.T, what string, d *disk.Disk, told map[int]string) {
	t.Helper()
	image := d.Image()
	for at := range d.Sectors() {
		want := make([]byte, 256)
		copy(want, told[at])
		if got := image[256*at : 256*at+256]; !bytes.Equal(got, want) {
			t.Errorf("%s, sector %d:\n%x, want\n%x", what, at, got, want)
		}
	}
}

// unhex takes bytes as they are written down, with spaces between.
func unhex(t *testing.T, s string) string {
	t.Helper()
	b, err := hex.DecodeString(strings.ReplaceAll(s, " ", ""))
	if err != nil {
		t.Fatal(err)
	}
	return string(b)
}

// zeros are n of them.
func zeros(n int) string { return strings.Repeat("\x00", n) }

// The bytes, each written down.
func TestBytesOfADisk(t *testing.T) {
	if checksum("123456789") != 0xe3069283 {
		t.Fatal("the checksum of these tests")
	}
	d, s := formatted(t, 12)
	none := unhex(t, "42475831 0100000000000000 02000000") + little(int(checksum("\x00\x00")), 4) + unhex(t, "0100 0200 0100") + zeros(226)
	imageIs(t, "Format", d, map[int]string{0: none + little(int(checksum(none)), 4)})

	must(t, s.Put("b-1", []byte("hello")), s.Make("a.0", 2), s.Commit())
	dir := unhex(t, "0200 03 612e30 01 02000000 00000000 0100 0400 0200 03 622d31 00 05000000") + little(int(checksum("hello")), 4) + unhex(t, "0100 0300 0100")
	one := unhex(t, "42475831 0200000000000000 28000000") + little(int(checksum(dir)), 4) + unhex(t, "0100 0600 0100") + zeros(226)
	imageIs(t, "Commit", d, map[int]string{0: none + little(int(checksum(none)), 4), 1: one + little(int(checksum(one)), 4), 3: "hello", 6: dir})
}

// laid holds what is on the disk behind a commit against the slot and directory of these files.
func laid(t *testing.T, what string, d *disk.Disk, number int, r root, data map[int]string) {
	t.Helper()
	image := make([]byte, 256*d.Sectors())
	for at, s := range data {
		copy(image[256*at:256*at+256], s)
	}
	r.lay(image, number)
	old := d.Image()
	copy(image[256*(1-number):], old[256*(1-number):][:256])
	for at := range d.Sectors() {
		want := image[256*at : 256*at+256]
		if got := old[256*at : 256*at+256]; !bytes.Equal(got, want) {
			t.Errorf("%s, sector %d:\n%x, want\n%x", what, at, got, want)
		}
	}
}

func TestBytesOfDirectories(t *testing.T) {
	d, s := formatted(t, 20)
	laid(t, "no file", d, 0, rootOf(1, "\x00\x00", span{2, 1}), nil)

	must(t, s.Put("x", nil), s.Commit())
	empty := entry{"x", 0, 0, 0, nil}
	laid(t, "an empty file", d, 1, rootOf(2, directoryOf(empty), span{3, 1}), nil)

	big := some(300)
	must(t, s.Put(longest, big), s.Commit())
	long := entry{longest, 0, 300, checksum(string(big)), []span{{2, 1}, {4, 1}}}
	data := map[int]string{2: string(big[:256]), 4: string(big[256:]), 3: directoryOf(empty)}
	laid(t, "names of 1 and 32 bytes", d, 0, rootOf(3, directoryOf(long, empty), span{5, 1}), data)

	must(t, s.Make("log", 3), s.Remove("x"), s.Put("-", []byte("z")), s.Commit())
	log := entry{"log", 1, 3, 0, []span{{3, 1}, {6, 2}}}
	dash := entry{"-", 0, 1, checksum("z"), []span{{8, 1}}}
	data[3], data[8], data[5] = "", "z", directoryOf(long, empty)
	laid(t, "logs and data", d, 1, rootOf(4, directoryOf(dash, long, log), span{9, 1}), data)
	filesAre(t, s, api.File{Name: "-", Size: 1, Runs: 1}, api.File{Name: longest, Size: 300, Runs: 2}, api.File{Name: "log", Log: true, Size: 3, Runs: 2})
	filesAre(t, opened(t, d), s.Files()...)
}

// A directory of more than one sector, in more than one run.
func TestBytesOfALongDirectory(t *testing.T) {
	d, s := formatted(t, 12)
	var l []entry
	for i := range 9 {
		name := strings.Repeat("n", 31) + strconv.Itoa(i)
		must(t, s.Put(name, nil))
		l = append(l, entry{name: name})
	}
	must(t, s.Put("p", []byte("p")), s.Commit()) // the directory of 9 * 44 + 19 bytes is in the sectors 4 and 5
	must(t, s.Remove("p"), s.Put("q", []byte("q")), s.Commit())
	q := entry{"q", 0, 1, checksum("q"), []span{{2, 1}}}
	p := entry{"p", 0, 1, checksum("p"), []span{{3, 1}}}
	before := directoryOf(append(l[:9:9], p)...)
	data := map[int]string{2: "q", 3: "p", 4: before[:256], 5: before[256:]}
	laid(t, "two sectors", d, 0, rootOf(3, directoryOf(append(l[:9:9], q)...), span{6, 2}), data)

	must(t, s.Remove("q"), s.Commit())
	after, last := directoryOf(append(l[:9:9], q)...), directoryOf(l...)
	data = map[int]string{2: "q", 5: before[256:], 6: after[:256], 7: after[256:]}
	laid(t, "the lowest sectors that are free", d, 1, rootOf(4, last, span{3, 2}), data)

	must(t, s.Commit())
	data[3], data[4] = last[:256], last[256:]
	laid(t, "two runs", d, 0, rootOf(5, last, span{2, 1}, span{5, 1}), data)
	filesAre(t, opened(t, d), s.Files()...)
}

// What was behind the last byte of a sector is not left there.
func TestZerosBehindTheLastByte(t *testing.T) {
	for _, n := range []int{0, 1, 2, 255, 256, 257, 511, 512, 513} {
		d := loaded(t, bytes.Repeat([]byte{0xee}, 256*8))
		s, e := extent.Format(d)
		must(t, e, s.Put("a", some(n)), s.Make("log", 1), s.Commit())
		image, sectors := d.Image(), (n+255)/256
		want := append(some(n), zeros(256*sectors-n+256)...) // the log's, too
		if got := image[256*3 : 256*(4+sectors)]; !bytes.Equal(got, want) {
			t.Errorf("%d bytes: %x", n, got)
		}
		dir := 4 + sectors
		if got := bytes.TrimRight(image[256*dir:256*dir+256], "\x00"); len(got) > 60 {
			t.Errorf("the directory's sector: %x", got)
		}
		if bytes.Contains(image[:512], []byte{0xee, 0xee}) {
			t.Error("the slots have old bytes")
		}
		sectorIs(t, s, "log", 0, full(0))
		holds(t, opened(t, d), "a", some(n))
	}
}
