package disk_test

import (
	"bytes"
	"math"
	"slices"
	"testing"

	"barograph/api"
	"barograph/disk"
)

// The calls have these signatures.
var (
	_ func(int) (*disk.Disk, api.Errno)         = disk.New
	_ func([]byte) (*disk.Disk, api.Errno)      = disk.Load
	_ func(*disk.Disk) int                      = (*disk.Disk).Sectors
	_ func(*disk.Disk, int) ([]byte, api.Errno) = (*disk.Disk).Read
	_ func(*disk.Disk, int, []byte) api.Errno   = (*disk.Disk).Write
	_ func(*disk.Disk) api.Errno                = (*disk.Disk).Flush
	_ func(*disk.Disk, int) api.Errno           = (*disk.Disk).Trip
	_ func(*disk.Disk) bool                     = (*disk.Disk).Dark
	_ func(*disk.Disk, ...bool)                 = (*disk.Disk).Cut
	_ func(*disk.Disk) []int                    = (*disk.Disk).Pending
	_ func(*disk.Disk) []byte                   = (*disk.Disk).Image
	_ func(*disk.Disk) api.Counts               = (*disk.Disk).Counts
)

// wrongLengths are those of no sector.
var wrongLengths = []int{0, 1, 128, 255, 257, 511, 512, 65536}

// full is a sector of one byte.
func full(c byte) []byte { return bytes.Repeat([]byte{c}, 256) }

// sectors are full ones, one behind another.
func sectors(letters string) []byte {
	var b []byte
	for _, c := range []byte(letters) {
		b = append(b, full(c)...)
	}
	return b
}

func fresh(t *testing.T, n int) *disk.Disk {
	t.Helper()
	d, e := disk.New(n)
	if d == nil || e != api.OK {
		t.Fatalf("New(%d): %v", n, e)
	}
	return d
}

// lettered is a disk whose durable bytes are these.
func lettered(t *testing.T, letters string) *disk.Disk {
	t.Helper()
	d, e := disk.Load(sectors(letters))
	if d == nil || e != api.OK {
		t.Fatalf("Load of %q: %v", letters, e)
	}
	return d
}

func put(t *testing.T, d *disk.Disk, at int, c byte) {
	t.Helper()
	if e := d.Write(at, full(c)); e != api.OK {
		t.Fatalf("Write(%d, %c): %v", at, c, e)
	}
}

func flush(t *testing.T, d *disk.Disk) {
	t.Helper()
	if e := d.Flush(); e != api.OK {
		t.Fatalf("Flush: %v", e)
	}
}

func trip(t *testing.T, d *disk.Disk, n int) {
	t.Helper()
	if e := d.Trip(n); e != api.OK {
		t.Fatalf("Trip(%d): %v", n, e)
	}
}

// goDark spends no operation.
func goDark(t *testing.T, d *disk.Disk) {
	t.Helper()
	trip(t, d, 0)
	if e := d.Flush(); e != api.ErrDark || !d.Dark() {
		t.Fatalf("Flush at the trip: %v, dark %v", e, d.Dark())
	}
}

// reads asks each sector of a disk that has power.
func reads(t *testing.T, d *disk.Disk, letters string) {
	t.Helper()
	for at, c := range []byte(letters) {
		if b, e := d.Read(at); !bytes.Equal(b, full(c)) || e != api.OK {
			t.Errorf("Read(%d): %.4x.. (%d bytes), %v; want %c", at, b, len(b), e, c)
		}
	}
}

func imageIs(t *testing.T, d *disk.Disk, letters string) {
	t.Helper()
	if b := d.Image(); !bytes.Equal(b, sectors(letters)) {
		t.Errorf("Image of %d bytes is not %q", len(b), letters)
	}
}

func pendingIs(t *testing.T, d *disk.Disk, want ...int) {
	t.Helper()
	if got := d.Pending(); !slices.Equal(got, want) {
		t.Errorf("Pending %v, want %v", got, want)
	}
}

func countsAre(t *testing.T, d *disk.Disk, reads, writes, flushes int) {
	t.Helper()
	if got := d.Counts(); got != (api.Counts{Reads: reads, Writes: writes, Flushes: flushes}) {
		t.Errorf("%+v, want %d reads, %d writes, %d flushes", got, reads, writes, flushes)
	}
}

func errorIs(t *testing.T, what string, got, want api.Errno) {
	t.Helper()
	if got != want {
		t.Errorf("%s: %v, want %v", what, got, want)
	}
}

func TestExamples(t *testing.T) {
	d := fresh(t, 2)
	put(t, d, 0, 'a')
	put(t, d, 0, 'b')
	put(t, d, 1, 'c')
	reads(t, d, "b")
	pendingIs(t, d, 0, 0, 1)
	d.Cut(true, false, true)
	reads(t, d, "ac")
	countsAre(t, d, 3, 3, 0)

	trip(t, d, 1)
	errorIs(t, "Write(0, d)", d.Write(0, full('d')), api.OK)
	errorIs(t, "Write(1, d)", d.Write(1, full('d')), api.ErrDark)
	if b, e := d.Read(0); b != nil || e != api.ErrDark || !d.Dark() {
		t.Error(b, e, d.Dark())
	}
	d.Cut()
	reads(t, d, "a")
	if d, e := disk.New(0); d != nil || e != api.ErrDiskSize {
		t.Error(d, e)
	}
	errorIs(t, "Write(2, a)", d.Write(2, full('a')), api.ErrRange)
	errorIs(t, "Write(0, three bytes)", d.Write(0, []byte("abc")), api.ErrLength)
}

func TestErrorNumbers(t *testing.T) {
	for _, x := range []struct {
		e    api.Errno
		want int
	}{{api.ErrArg, 1}, {api.ErrRange, 2}, {api.ErrLength, 3}, {api.ErrDark, 4}, {api.ErrDiskSize, 50}} {
		if int(x.e) != x.want {
			t.Errorf("%v, want %d", x.e, x.want)
		}
	}
}

// newDiskIs asks all that can be asked of a disk without operations.
func newDiskIs(t *testing.T, d *disk.Disk, image []byte) {
	t.Helper()
	if d.Sectors() != len(image)/256 || d.Dark() || len(d.Pending()) != 0 {
		t.Errorf("%d sectors, dark %v, pending %v; want %d sectors", d.Sectors(), d.Dark(), d.Pending(), len(image)/256)
	}
	if !bytes.Equal(d.Image(), image) {
		t.Error("Image is another one")
	}
	countsAre(t, d, 0, 0, 0)
	for at := range d.Sectors() {
		if b, e := d.Read(at); !bytes.Equal(b, image[256*at:256*at+256]) || e != api.OK {
			t.Fatalf("Read(%d): %.4x.., %v", at, b, e)
		}
	}
	errorIs(t, "Flush", d.Flush(), api.OK)
	countsAre(t, d, len(image)/256, 0, 1)
}

func TestNewSizes(t *testing.T) {
	for _, n := range []int{1, 2, 3, 255, 256, 257, 16383, 16384} {
		newDiskIs(t, fresh(t, n), make([]byte, 256*n))
	}
	for _, n := range []int{0, -1, -2, -256, -16384, 16385, 16640, 1 << 22, 1<<32 + 1, math.MaxInt32, math.MinInt32, math.MaxInt, math.MinInt} {
		if d, e := disk.New(n); d != nil || e != api.ErrDiskSize {
			t.Errorf("New(%d): a disk %v, %v", n, d != nil, e)
		}
	}
}

func TestLoadSizes(t *testing.T) {
	x := dice(3)
	most := x.bytes(256*16384 + 256)
	for _, n := range []int{256, 512, 768, 256 * 255, 256 * 16383, 256 * 16384} {
		d, e := disk.Load(most[:n])
		if d == nil || e != api.OK {
			t.Fatalf("Load of %d bytes: %v", n, e)
		}
		newDiskIs(t, d, most[:n])
	}
	for _, n := range []int{0, 1, 2, 255, 257, 511, 513, 16384, 256*16384 - 1, 256*16384 - 255, 256*16384 + 1, 256*16384 + 255, 256*16384 + 256} {
		d, e := disk.Load(most[:n])
		if n == 16384 { // as many bytes as there may be sectors are 64 of them
			if e != api.OK || d.Sectors() != 64 {
				t.Error(e)
			}
			continue
		}
		if d != nil || e != api.ErrDiskSize {
			t.Errorf("Load of %d bytes: a disk %v, %v", n, d != nil, e)
		}
	}
	if d, e := disk.Load(nil); d != nil || e != api.ErrDiskSize {
		t.Error("Load of nil:", d != nil, e)
	}
}

// What an image loads as is what was written when it was taken; the cache is no part of it.
func TestLoadOfAnImage(t *testing.T) {
	d := lettered(t, "abc")
	put(t, d, 1, 'x')
	flush(t, d)
	put(t, d, 2, 'y')
	again, e := disk.Load(d.Image())
	if e != api.OK {
		t.Fatal(e)
	}
	newDiskIs(t, again, sectors("axc"))
}

// What lies beyond the image is neither read nor written, and the image stays as it was.
func TestLoadLooksAtTheImageAlone(t *testing.T) {
	around := sectors("xabx")
	before := bytes.Clone(around)
	d, e := disk.Load(around[256:768])
	if e != api.OK {
		t.Fatal(e)
	}
	reads(t, d, "ab")
	put(t, d, 1, 'z')
	flush(t, d)
	if d.Sectors() != 2 || !bytes.Equal(around, before) {
		t.Errorf("%d sectors; the image has changed", d.Sectors())
	}
}

func TestSectors(t *testing.T) {
	d := fresh(t, 3)
	put(t, d, 2, 'a')
	d.Read(3)
	d.Write(3, full('a'))
	flush(t, d)
	goDark(t, d)
	if d.Sectors() != 3 {
		t.Error(d.Sectors())
	}
	d.Cut()
	if d.Sectors() != 3 {
		t.Error(d.Sectors())
	}
}

// nowhere are numbers of no sector; some of them are a sector's once they are cut to fewer bits.
func nowhere(sectors int) []int {
	return []int{-1, -2, -256, -sectors, sectors, sectors + 1, 256 * sectors, 16384, 1 << 16, 1 << 32, math.MinInt32, math.MaxInt32, math.MinInt, math.MaxInt}
}

func TestReadNowhere(t *testing.T) {
	for _, n := range []int{1, 2, 7} {
		d := fresh(t, n)
		put(t, d, 0, 'a')
		for i, at := range nowhere(n) {
			if b, e := d.Read(at); b != nil || e != api.ErrRange {
				t.Errorf("%d sectors, Read(%d): %d bytes, %v", n, at, len(b), e)
			}
			countsAre(t, d, i+1, 1, 0)
		}
		for _, at := range []int{0, n - 1} {
			if b, e := d.Read(at); len(b) != 256 || e != api.OK {
				t.Errorf("%d sectors, Read(%d): %d bytes, %v", n, at, len(b), e)
			}
		}
		pendingIs(t, d, 0)
	}
}

func TestWriteNowhere(t *testing.T) {
	for _, n := range []int{1, 2, 7} {
		d := fresh(t, n)
		for i, at := range nowhere(n) {
			errorIs(t, "Write nowhere", d.Write(at, full('a')), api.ErrRange)
			countsAre(t, d, 0, i+1, 0)
		}
		pendingIs(t, d)
		for _, at := range []int{0, n - 1} {
			errorIs(t, "Write", d.Write(at, full('a')), api.OK)
		}
		pendingIs(t, d, 0, n-1)
		flush(t, d)
		want := bytes.Repeat([]byte{0}, n)
		want[0], want[n-1] = 'a', 'a'
		imageIs(t, d, string(want))
	}
}

func TestWriteOfAnotherLength(t *testing.T) {
	d := lettered(t, "ab")
	for i, n := range wrongLengths {
		b := bytes.Repeat([]byte{'x'}, n+300)
		errorIs(t, "Write of another length", d.Write(0, b[:n]), api.ErrLength)
		errorIs(t, "Write of another length", d.Write(1, b[:n:n]), api.ErrLength)
		countsAre(t, d, 0, 2*i+2, 0)
	}
	errorIs(t, "Write(0, nil)", d.Write(0, nil), api.ErrLength)
	pendingIs(t, d)
	reads(t, d, "ab")
	flush(t, d)
	imageIs(t, d, "ab")
	errorIs(t, "Write", d.Write(1, full('c')), api.OK)
	pendingIs(t, d, 1)
	reads(t, d, "ac")
}

// Each bit of each byte of a sector is kept.
func TestSectorIsKeptAsAWhole(t *testing.T) {
	x := dice(4)
	d := fresh(t, 3)
	for range 50 {
		a, b := x.bytes(256), x.bytes(256)
		d.Write(0, a)
		d.Write(2, b)
		for range 2 {
			got0, _ := d.Read(0)
			got1, _ := d.Read(1)
			got2, _ := d.Read(2)
			if !bytes.Equal(got0, a) || !bytes.Equal(got1, full(0)) || !bytes.Equal(got2, b) {
				t.Fatalf("%x, %x, %x", got0, got1, got2)
			}
			flush(t, d)
		}
		if !bytes.Equal(d.Image(), slices.Concat(a, full(0), b)) {
			t.Fatal("Image is another one")
		}
	}
}

// Where two errors hold: the power comes first, then the sector, then the bytes.
func TestWhichErrorComesFirst(t *testing.T) {
	d := fresh(t, 2)
	for _, n := range wrongLengths {
		errorIs(t, "Write nowhere, of another length", d.Write(2, make([]byte, n)), api.ErrRange)
		errorIs(t, "Write nowhere, of another length", d.Write(-1, make([]byte, n)), api.ErrRange)
	}
	wrong := map[string]func() api.Errno{
		"Read(-1)":        func() api.Errno { _, e := d.Read(-1); return e },
		"Read(2)":         func() api.Errno { _, e := d.Read(2); return e },
		"Write(2, a)":     func() api.Errno { return d.Write(2, full('a')) },
		"Write(0, short)": func() api.Errno { return d.Write(0, full('a')[:255]) },
		"Write(2, short)": func() api.Errno { return d.Write(2, full('a')[:255]) },
	}
	for what, call := range wrong {
		trip(t, d, 0)
		errorIs(t, what+" at the trip", call(), api.ErrDark)
		errorIs(t, what+" in the dark", call(), api.ErrDark)
		errorIs(t, "Trip(-1) in the dark", d.Trip(-1), api.ErrArg)
		errorIs(t, "Trip(0) in the dark", d.Trip(0), api.ErrDark)
		d.Cut()
		if e := call(); e != api.ErrRange && e != api.ErrLength {
			t.Errorf("%s: %v", what, e)
		}
	}
}

func TestReadsOfWhatWasWritten(t *testing.T) {
	d := lettered(t, "abc")
	reads(t, d, "abc")
	put(t, d, 1, 'x')
	reads(t, d, "axc")
	put(t, d, 1, 'y')
	put(t, d, 2, 'z')
	put(t, d, 1, 'w')
	reads(t, d, "awz")
	imageIs(t, d, "abc")
	pendingIs(t, d, 1, 1, 2, 1)

	flush(t, d)
	reads(t, d, "awz")
	imageIs(t, d, "awz")
	pendingIs(t, d)

	put(t, d, 0, 'v')
	put(t, d, 1, 'b')
	reads(t, d, "vbz")
	imageIs(t, d, "awz")
	pendingIs(t, d, 0, 1)
	flush(t, d)
	flush(t, d)
	reads(t, d, "vbz")
	imageIs(t, d, "vbz")
}

// A write that is refused is not the last one.
func TestReadBehindARefusedWrite(t *testing.T) {
	d := lettered(t, "ab")
	put(t, d, 0, 'x')
	d.Write(0, full('y')[:255])
	d.Write(2, full('y'))
	d.Write(1, nil)
	reads(t, d, "xb")
	pendingIs(t, d, 0)
	trip(t, d, 0)
	d.Write(0, full('z'))
	d.Write(1, full('z'))
	pendingIs(t, d, 0)
	d.Cut(true, true, true)
	reads(t, d, "xb")
}

func TestWhatIsCounted(t *testing.T) {
	d := fresh(t, 2)
	d.Read(0)
	countsAre(t, d, 1, 0, 0)
	d.Read(2)
	countsAre(t, d, 2, 0, 0)
	d.Write(1, full('a'))
	countsAre(t, d, 2, 1, 0)
	d.Write(2, full('a'))
	countsAre(t, d, 2, 2, 0)
	d.Write(1, nil)
	countsAre(t, d, 2, 3, 0)
	d.Flush()
	countsAre(t, d, 2, 3, 1)
	d.Flush() // of an empty cache
	countsAre(t, d, 2, 3, 2)
	d.Read(-1)
	countsAre(t, d, 3, 3, 2)

	// What is no operation.
	d.Sectors()
	d.Dark()
	d.Pending()
	d.Image()
	d.Counts()
	d.Trip(-1)
	d.Trip(9)
	d.Cut()
	d.Cut(true)
	countsAre(t, d, 3, 3, 2)
}

func TestWhatIsNotCountedInTheDark(t *testing.T) {
	for first := range 5 {
		d := fresh(t, 2)
		operations := []func() api.Errno{
			func() api.Errno { _, e := d.Read(0); return e },
			func() api.Errno { _, e := d.Read(2); return e },
			func() api.Errno { return d.Write(0, full('x')) },
			func() api.Errno { return d.Write(2, nil) },
			d.Flush,
		}
		put(t, d, 1, 'a')
		flush(t, d)
		put(t, d, 0, 'b')
		reads(t, d, "ba")
		trip(t, d, 0)
		for i := range 10 { // the first of them finds the trip, those behind it the dark
			errorIs(t, "an operation", operations[(first+i)%5](), api.ErrDark)
			countsAre(t, d, 2, 2, 1)
			pendingIs(t, d, 0)
			imageIs(t, d, "\x00a")
		}
		d.Cut()
		countsAre(t, d, 2, 2, 1)
		d.Read(0)
		countsAre(t, d, 3, 2, 1)
	}
}

func TestTripAtItsBounds(t *testing.T) {
	for _, n := range []int{-1, -2, -256, math.MinInt32, math.MinInt} {
		d := fresh(t, 1)
		errorIs(t, "Trip of less than 0", d.Trip(n), api.ErrArg)
		for range 5 {
			errorIs(t, "Flush", d.Flush(), api.OK)
		}
	}
	for _, n := range []int{0, 1, 2, 3, 50} {
		d := fresh(t, 1)
		trip(t, d, n)
		for i := range n {
			if e := d.Flush(); e != api.OK || d.Dark() {
				t.Errorf("Trip(%d), operation %d: %v, dark %v", n, i, e, d.Dark())
			}
		}
		if d.Dark() { // the power fails at the operation behind the last one, not ahead of it
			t.Errorf("Trip(%d) is dark too early", n)
		}
		for range 3 {
			if e := d.Flush(); e != api.ErrDark || !d.Dark() {
				t.Errorf("Trip(%d), operation behind the last one: %v, dark %v", n, e, d.Dark())
			}
		}
		countsAre(t, d, 0, 0, n)
	}
	for _, n := range []int{256, 1 << 16, 1 << 32, math.MaxInt32, math.MaxInt} {
		d := fresh(t, 1)
		trip(t, d, n)
		for range 200 {
			errorIs(t, "Flush", d.Flush(), api.OK)
		}
	}
}

// Each operation takes one of the trip, one that is refused too; what is no operation takes none.
func TestWhatTakesOfTheTrip(t *testing.T) {
	d := fresh(t, 2)
	operations := []func() api.Errno{
		func() api.Errno { _, e := d.Read(1); return e },
		func() api.Errno { return d.Write(1, full('a')) },
		d.Flush,
		func() api.Errno { _, e := d.Read(2); return e },
		func() api.Errno { return d.Write(-1, full('a')) },
		func() api.Errno { return d.Write(1, nil) },
	}
	want := []api.Errno{api.OK, api.OK, api.OK, api.ErrRange, api.ErrRange, api.ErrLength}
	for i, operation := range operations {
		trip(t, d, 2)
		for range 2 {
			d.Sectors()
			d.Dark()
			d.Pending()
			d.Image()
			d.Counts()
			d.Trip(-1)
			errorIs(t, "an operation with a trip", operation(), want[i])
		}
		errorIs(t, "an operation at the trip", operation(), api.ErrDark)
		d.Cut()
	}
}

func TestTripReplacesAnEarlierOne(t *testing.T) {
	for _, x := range []struct{ first, spent, second int }{{5, 0, 2}, {5, 3, 2}, {2, 0, 5}, {2, 2, 5}, {0, 0, 3}, {3, 1, 0}, {4, 0, 4}, {4, 2, 4}} {
		d := fresh(t, 1)
		trip(t, d, x.first)
		for range x.spent {
			flush(t, d)
		}
		trip(t, d, x.second)
		for range x.second {
			flush(t, d)
		}
		errorIs(t, "Flush at the second trip", d.Flush(), api.ErrDark)
		countsAre(t, d, 0, 0, x.spent+x.second)
	}
}

func TestTripThatIsRefused(t *testing.T) {
	d := fresh(t, 1)
	trip(t, d, 1)
	errorIs(t, "Trip(-1)", d.Trip(-1), api.ErrArg) // the earlier one stays
	flush(t, d)
	errorIs(t, "Flush at the trip", d.Flush(), api.ErrDark)
	for _, n := range []int{0, 1, 5} {
		errorIs(t, "Trip in the dark", d.Trip(n), api.ErrDark)
		if !d.Dark() {
			t.Error("a trip has brought the power back")
		}
	}
	d.Cut()
	for range 8 { // nothing of it is left behind the cut
		errorIs(t, "Flush", d.Flush(), api.OK)
	}
}

// The disk loses the trip at which the power fails.
func TestTripIsLostAtItsEnd(t *testing.T) {
	d := lettered(t, "a")
	trip(t, d, 1)
	put(t, d, 0, 'b')
	errorIs(t, "Flush at the trip", d.Flush(), api.ErrDark)
	d.Cut(true)
	for range 4 {
		reads(t, d, "b")
	}
	flush(t, d)
	if d.Dark() {
		t.Error("dark again")
	}
}

func TestCutOfADarkDisk(t *testing.T) {
	for _, x := range []struct {
		keep []bool
		want string
	}{{nil, "ab"}, {[]bool{true}, "xb"}, {[]bool{false, true}, "ay"}, {[]bool{true, true, true}, "zy"}, {[]bool{true, false, false}, "xb"}} {
		d := lettered(t, "ab")
		put(t, d, 0, 'x')
		put(t, d, 1, 'y')
		put(t, d, 0, 'z')
		goDark(t, d)
		pendingIs(t, d, 0, 1, 0) // the power is gone, but what survives is not told yet
		imageIs(t, d, "ab")
		d.Cut(x.keep...)
		if d.Dark() {
			t.Error("dark behind the cut")
		}
		pendingIs(t, d)
		imageIs(t, d, x.want)
		reads(t, d, x.want)
		flush(t, d)
		imageIs(t, d, x.want)
	}
}

func TestCutWithATripLeft(t *testing.T) {
	for _, n := range []int{0, 1, 2, 7} {
		d := lettered(t, "ab")
		put(t, d, 0, 'x')
		trip(t, d, n)
		d.Cut(true)
		reads(t, d, "xb")
		for range 10 {
			put(t, d, 1, 'y')
			flush(t, d)
		}
		reads(t, d, "xy")
	}
}

func TestCutOfAnEmptyCache(t *testing.T) {
	d := lettered(t, "ab")
	for _, keep := range [][]bool{nil, {}, {true}, {false}, {true, true, true}} {
		d.Cut(keep...)
		pendingIs(t, d)
		imageIs(t, d, "ab")
	}
	put(t, d, 0, 'x')
	flush(t, d)
	d.Cut(true) // of what a flush made durable nothing is left to cut
	d.Cut(false)
	reads(t, d, "xb")
}

// The writes are numbered anew behind each flush, and behind each cut.
func TestCutNumbersTheWritesOfTheCache(t *testing.T) {
	d := lettered(t, "abc")
	put(t, d, 0, 'x')
	flush(t, d)
	put(t, d, 1, 'y')
	put(t, d, 2, 'z')
	d.Cut(true)
	reads(t, d, "xyc")
	put(t, d, 0, 'u')
	put(t, d, 1, 'v')
	d.Cut(false, true)
	reads(t, d, "xvc")
}

// keeps are all choices of n bools.
func keeps(n int) [][]bool {
	all := [][]bool{nil}
	for range n {
		var longer [][]bool
		for _, keep := range all {
			longer = append(longer, append(slices.Clone(keep), false), append(slices.Clone(keep), true))
		}
		all = longer
	}
	return all
}

// All choices, of fewer bools than there are writes, of as many and of more: each sector has its previous bytes, or those of the last one of its writes that were kept.
func TestCutKeepsWhatItIsTold(t *testing.T) {
	at := []int{0, 1, 0, 2, 0, 1}
	for n := range 9 {
		for _, keep := range keeps(n) {
			d, want := lettered(t, "abc"), []byte("abc")
			for i, at := range at {
				put(t, d, at, byte('p'+i))
				if i < n && keep[i] {
					want[at] = byte('p' + i)
				}
			}
			pendingIs(t, d, at...)
			d.Cut(keep...)
			pendingIs(t, d)
			imageIs(t, d, string(want))
			reads(t, d, string(want))
			countsAre(t, d, 3, 6, 0)
			flush(t, d) // what was lost does not come back
			imageIs(t, d, string(want))
		}
	}
}

// After a flush, a cut loses nothing, whatever it keeps.
func TestCutBehindAFlush(t *testing.T) {
	for n := range 5 {
		for _, keep := range keeps(n) {
			d := lettered(t, "ab")
			put(t, d, 0, 'x')
			put(t, d, 1, 'y')
			put(t, d, 0, 'z')
			flush(t, d)
			d.Cut(keep...)
			imageIs(t, d, "zy")
			reads(t, d, "zy")
		}
	}
}

// After Trip(n), n operations answer as those of a disk without a trip, and no operation behind them changes anything until the next cut.
func TestOperationsUpToTheTrip(t *testing.T) {
	x := dice(5)
	for n := range 30 {
		image := x.bytes(256 * 3)
		one, _ := disk.Load(image)
		two, _ := disk.Load(image)
		trip(t, one, n)
		for i := range n {
			at, b := x.below(5)-1, x.data()
			switch x.below(4) {
			case 0:
				b1, e1 := one.Read(at)
				b2, e2 := two.Read(at)
				if !bytes.Equal(b1, b2) || e1 != e2 {
					t.Fatalf("Trip(%d), operation %d, Read(%d): %v, %v", n, i, at, e1, e2)
				}
			case 1:
				errorIs(t, "Flush", one.Flush(), two.Flush())
			default:
				errorIs(t, "Write", one.Write(at, b), two.Write(at, b))
			}
		}
		for range 10 {
			one.Read(x.below(3))
			one.Write(x.below(3), x.bytes(256))
			one.Flush()
			if !slices.Equal(one.Pending(), two.Pending()) || !bytes.Equal(one.Image(), two.Image()) || one.Counts() != two.Counts() {
				t.Fatalf("Trip(%d): an operation in the dark has changed something", n)
			}
		}
		keep := x.bools(len(two.Pending()))
		one.Cut(keep...)
		two.Cut(keep...)
		if !bytes.Equal(one.Image(), two.Image()) {
			t.Fatalf("Trip(%d): the cut kept something else", n)
		}
	}
}

func spoil(b []byte) {
	for i := range b[:cap(b)] {
		b[:cap(b)][i] ^= 0xff
	}
}

// Bytes that were handed in may change afterwards; the disk's stay.
func TestBytesHandedInAreNotKept(t *testing.T) {
	image := sectors("ab")
	d, e := disk.Load(image)
	if e != api.OK {
		t.Fatal(e)
	}
	spoil(image)
	imageIs(t, d, "ab")
	reads(t, d, "ab")

	b := full('x')
	d.Write(0, b)
	spoil(b)
	reads(t, d, "xb")
	b = full('y')
	d.Write(1, b)
	d.Write(0, b)
	spoil(b)
	reads(t, d, "yy")
	flush(t, d)
	spoil(b)
	imageIs(t, d, "yy")

	keep := []bool{true, false}
	put(t, d, 0, 'u')
	put(t, d, 1, 'v')
	d.Cut(keep...)
	keep[0], keep[1] = false, true
	reads(t, d, "uy")
}

// What is handed in is not written to, nor is what lies around it.
func TestArgumentsStayAsTheyWere(t *testing.T) {
	around := sectors("lmr")
	before := bytes.Clone(around)
	d := lettered(t, "ab")
	d.Write(0, around[256:512])
	d.Write(1, around[255:512])
	d.Write(1, around[257:512])
	reads(t, d, "mb")
	flush(t, d)
	put(t, d, 0, 'z')
	flush(t, d)
	if !bytes.Equal(around, before) {
		t.Error("the bytes of a write have changed")
	}
	bools := []bool{true, true, true, true}
	put(t, d, 0, 'u')
	put(t, d, 1, 'v')
	d.Cut(bools[:1]...) // the bools behind those told have no say
	reads(t, d, "ub")
	if !slices.Equal(bools, []bool{true, true, true, true}) {
		t.Error(bools)
	}
}

// What came out may be changed; the disk's bytes, and what else came out, stay.
func TestBytesHandedOutAreNotShared(t *testing.T) {
	d := lettered(t, "ab")
	put(t, d, 1, 'c')
	put(t, d, 1, 'd')
	for _, at := range []int{0, 1} { // of the durable bytes, of the cache
		one, _ := d.Read(at)
		two, _ := d.Read(at)
		want := bytes.Clone(two)
		spoil(one)
		if !bytes.Equal(two, want) {
			t.Errorf("two reads of sector %d share their bytes", at)
		}
	}
	reads(t, d, "ad")
	one, two := d.Image(), d.Image()
	spoil(one)
	if !bytes.Equal(two, sectors("ab")) {
		t.Error("two images share their bytes")
	}
	imageIs(t, d, "ab")
	list, other := d.Pending(), d.Pending()
	for i := range list[:cap(list)] {
		list[:cap(list)][i] = 7
	}
	if !slices.Equal(other, []int{1, 1}) {
		t.Error("two lists of what is pending are one:", other)
	}
	pendingIs(t, d, 1, 1)
	d.Cut(true, false)
	reads(t, d, "ac")
}

// What came out stays as it was, whatever the disk does next.
func TestBytesHandedOutStay(t *testing.T) {
	d := lettered(t, "ab")
	put(t, d, 1, 'c')
	durable, _ := d.Read(0)
	cached, _ := d.Read(1)
	image, list, counts := d.Image(), d.Pending(), d.Counts()
	put(t, d, 0, 'x')
	put(t, d, 1, 'y')
	flush(t, d)
	put(t, d, 0, 'z')
	d.Cut(true)
	put(t, d, 1, 'w')
	if !bytes.Equal(durable, full('a')) || !bytes.Equal(cached, full('c')) {
		t.Error("what was read has changed")
	}
	if !bytes.Equal(image, sectors("ab")) || !slices.Equal(list, []int{1}) || counts != (api.Counts{Reads: 2, Writes: 1}) {
		t.Error("what was told has changed")
	}
}

func TestDisksAreIndependent(t *testing.T) {
	one, two := lettered(t, "ab"), lettered(t, "ab")
	put(t, one, 0, 'x')
	flush(t, one)
	put(t, one, 1, 'y')
	trip(t, one, 0)
	one.Read(0)
	if two.Dark() {
		t.Error("dark by another disk's trip")
	}
	pendingIs(t, two)
	countsAre(t, two, 0, 0, 0)
	reads(t, two, "ab")
	put(t, two, 1, 'z')
	two.Cut(true)
	pendingIs(t, one, 1)
	imageIs(t, one, "xb")
	imageIs(t, two, "az")
	countsAre(t, one, 0, 2, 1)
	if !one.Dark() {
		t.Error("another disk's cut has brought the power back")
	}
}

// What a call is refused for is all that it leaves: Trip of a wrong number changes nothing that can be seen.
func TestRefusedTripChangesNothing(t *testing.T) {
	d := lettered(t, "ab")
	put(t, d, 0, 'x')
	d.Trip(-1)
	goDark(t, d)
	d.Trip(-1)
	d.Trip(3)
	pendingIs(t, d, 0)
	imageIs(t, d, "ab")
	countsAre(t, d, 0, 1, 0)
	if !d.Dark() {
		t.Error("not dark")
	}
}

// Dark says what holds at each step.
func TestDark(t *testing.T) {
	d := fresh(t, 1)
	darkIs := func(want bool) {
		t.Helper()
		if d.Dark() != want {
			t.Errorf("dark %v", !want)
		}
	}
	darkIs(false)
	trip(t, d, 1)
	darkIs(false)
	flush(t, d)
	darkIs(false)
	d.Flush()
	darkIs(true)
	d.Flush()
	d.Trip(0)
	darkIs(true)
	d.Cut()
	darkIs(false)
	d.Cut()
	darkIs(false)
	trip(t, d, 0)
	d.Cut() // ahead of the operation that would have found it
	darkIs(false)
	flush(t, d)
	darkIs(false)
}
