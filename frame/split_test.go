package frame_test

import (
	"bytes"
	"encoding/hex"
	"math"
	"strings"
	"testing"

	"barograph/api"
	"barograph/frame"
)

// fromHex are bytes that are written as in the chapter; n zeros stand behind them.
func fromHex(t *testing.T, s string, zeros int) []byte {
	t.Helper()
	b, err := hex.DecodeString(strings.ReplaceAll(s, " ", ""))
	if err != nil {
		t.Fatal(err)
	}
	return append(b, make([]byte, zeros)...)
}

// split is what Split answers; it has to be one.
func split(t *testing.T, segment uint32, at int, record []byte) [][]byte {
	t.Helper()
	sectors, errno := frame.Split(segment, at, record)
	if errno != api.OK {
		t.Fatalf("Split(%d, %d, %d bytes): %v", segment, at, len(record), errno)
	}
	return sectors
}

// kindsOf are the kinds of sectors, in their order.
func kindsOf(sectors [][]byte) []byte {
	var kinds []byte
	for _, s := range sectors {
		kinds = append(kinds, s[2])
	}
	return kinds
}

func TestExamplesOfSplit(t *testing.T) {
	want := fromHex(t, "42 4c 01 00 07000000 0300 0200 6162", 238)
	l := split(t, 7, 3, []byte("ab"))
	if len(l) != 1 || !bytes.Equal(l[0][:252], want) || !bytes.Equal(l[0], sum(l[0])) {
		t.Errorf("Split(7, 3, ab) = %x", l)
	}
	if l := split(t, 1, 0, make([]byte, 241)); !bytes.Equal(kindsOf(l), []byte{2, 4}) {
		t.Errorf("Split(1, 0, 241 bytes) has the kinds %v", kindsOf(l))
	}
	splitFails(t, 31, make([]byte, 241), api.ErrArg)
	if l := split(t, 1, 0, nil); !bytes.Equal(kindsOf(l), []byte{1}) {
		t.Errorf("Split(1, 0, empty) has the kinds %v", kindsOf(l))
	}
}

// What another program says of the whole of these sectors, so that the description is held against something too.
func TestKnownSectors(t *testing.T) {
	splits(t, 7, 3, []byte("ab"), [][]byte{fromHex(t, "42 4c 01 00 07000000 0300 0200 6162"+strings.Repeat("00", 238)+"1085c62e", 0)})
	splits(t, 1, 0, nil, [][]byte{fromHex(t, "42 4c 01 00 01000000 0000 0000"+strings.Repeat("00", 240)+"afe5eb84", 0)})
	splits(t, 0x01020304, 29, bytes.Repeat([]byte{0xff}, 481), [][]byte{
		fromHex(t, "42 4c 02 00 04030201 1d00 f000"+strings.Repeat("ff", 240)+"8d7945da", 0),
		fromHex(t, "42 4c 03 00 04030201 1e00 f000"+strings.Repeat("ff", 240)+"11a224a7", 0),
		fromHex(t, "42 4c 04 00 04030201 1f00 0100 ff"+strings.Repeat("00", 239)+"135ed518", 0),
	})
}

// The sizes at which one more sector is needed, and how many these are.
func edges() map[int]int {
	return map[int]int{
		0: 1, 1: 1, 2: 1, 239: 1, 240: 1, 241: 2, 479: 2, 480: 2, 481: 3, 719: 3, 720: 3, 721: 4,
		255: 2, 256: 2, 257: 2, 3840: 16, 3841: 17, 7439: 31, 7440: 31, 7441: 32, 7679: 32, 7680: 32,
	}
}

func TestSplitAtEachEdge(t *testing.T) {
	for size, n := range edges() {
		record := someBytes(size, dice(size))
		for _, at := range []int{0, 1, 31 - n, 32 - n} {
			if at < 0 || at+n > 32 {
				continue
			}
			want, _ := splitOf(9, at, record)
			if len(want) != n {
				t.Fatalf("%d bytes are described as %d sectors", size, len(want))
			}
			splits(t, 9, at, record, want)
		}
		for _, at := range []int{33 - n, 34 - n, 31 + n, 32, 33, 64, 65536, 1 << 32, 1<<32 + 1, math.MaxInt - 31, math.MaxInt - n, math.MaxInt - n + 1, math.MaxInt - 1, math.MaxInt} {
			splitFails(t, at, record, api.ErrArg)
		}
		for _, at := range []int{-1, -2, -31, -32, -33, -65536, -1 << 32, 1 - 1<<32, math.MinInt + 32, math.MinInt + 1, math.MinInt} {
			splitFails(t, at, record, api.ErrArg)
		}
	}
}

// A record of 1 to 240 bytes goes anywhere in the segment, the empty one too.
func TestSplitAtEachSector(t *testing.T) {
	for at := range 32 {
		for _, size := range []int{0, 1, 240} {
			l := split(t, 5, at, someBytes(size, 3))
			if len(l) != 1 || l[0][8] != byte(at) || l[0][9] != 0 {
				t.Errorf("%d bytes at %d: %x", size, at, l)
			}
		}
		for n := 1; n <= 32; n++ {
			splitsAsTheChapter(t, 5, at, someBytes(240*n, 4))
			splitsAsTheChapter(t, 5, at, someBytes(240*n-1, 5))
		}
	}
}

func TestSplitOfTooManyBytes(t *testing.T) {
	for _, size := range []int{7681, 7682, 7919, 7920, 7921, 65536 + 100, 1 << 20} {
		record := someBytes(size, 1)
		// That it is too long is told first, wherever it would begin.
		for _, at := range []int{0, 1, 31, 32, 33, -1, math.MaxInt, math.MinInt} {
			splitFails(t, at, record, api.ErrFrameLong)
		}
	}
	for _, at := range []int{1, 31, 32, -1, math.MaxInt, math.MinInt} {
		splitFails(t, at, someBytes(7680, 1), api.ErrArg)
	}
}

func TestSplitOfEachSize(t *testing.T) {
	d := dice(3)
	for size := range 7680 + 300 {
		record := someBytes(size, dice(size))
		splitsAsTheChapter(t, uint32(d.number()), 0, record)
		splitsAsTheChapter(t, uint32(d.number()), d.below(33), record)
	}
}

// As few pieces as can hold it, all but the last one of 240 bytes, and nothing of the record lost.
func TestPiecesOfEachSize(t *testing.T) {
	for size := range 7681 {
		record := someBytes(size, dice(size))
		l := split(t, 2, 0, record)
		if n := len(l); n > 1 && (n-1)*240 >= size || n*240 < size || n < 1 {
			t.Fatalf("%d bytes are %d pieces", size, n)
		}
		var joined []byte
		for i, s := range l {
			length := int(s[10]) + 256*int(s[11])
			if i < len(l)-1 && length != 240 {
				t.Fatalf("piece %d of %d bytes has %d", i, size, length)
			}
			joined = append(joined, s[12:12+length]...)
		}
		if !bytes.Equal(joined, record) {
			t.Fatalf("the pieces of %d bytes are not these", size)
		}
	}
}

// Each byte of a sector's head is what the chapter says, each byte of the piece is the record's, those behind it are zeros, and the checksum is that of all of these.
func TestEachByteOfASector(t *testing.T) {
	d := dice(7)
	for _, segment := range []uint32{0, 1, 0xff, 0x100, 0xff00, 0x10000, 0xff0000, 0x1000000, 0xff000000, 0x04030201, 0xa1b2c3d4, 1<<32 - 1} {
		for size, n := range edges() {
			at := d.below(33 - n)
			record := someBytes(size, dice(size))
			for i, s := range split(t, segment, at, record) {
				piece := record[240*i : min(240*i+240, size)]
				head := []byte{'B', 'L', 3, 0, byte(segment), byte(segment >> 8), byte(segment >> 16), byte(segment >> 24), byte(at + i), 0, byte(len(piece)), 0}
				switch {
				case n == 1:
					head[2] = 1
				case i == 0:
					head[2] = 2
				case i == n-1:
					head[2] = 4
				}
				if len(s) != 256 || !bytes.Equal(s[:12], head) || !bytes.Equal(s[12:12+len(piece)], piece) {
					t.Errorf("sector %d of %d bytes: %x", i, size, s)
				}
				if !bytes.Equal(s[12+len(piece):252], make([]byte, 240-len(piece))) {
					t.Errorf("sector %d of %d bytes has no zeros behind the piece: %x", i, size, s)
				}
				if !bytes.Equal(s, sum(s)) {
					t.Errorf("sector %d of %d bytes has another checksum: %x", i, size, s)
				}
			}
		}
	}
}

// A record may have any bytes: those of a sector too, and nothing but zeros.
func TestRecordsOfAnyBytes(t *testing.T) {
	inner := bytes.Join(split(t, 1, 0, someBytes(900, 1)), nil)
	for _, record := range [][]byte{inner, inner[:240], make([]byte, 1), make([]byte, 240), make([]byte, 7680), bytes.Repeat([]byte{0xff}, 7680), bytes.Repeat([]byte("BL"), 700)} {
		sectors, errno := splitOf(1, 0, record)
		if errno != api.OK {
			t.Fatal(errno)
		}
		splits(t, 1, 0, record, sectors)
		scans(t, 1, sectors, [][]byte{record}, len(sectors))
	}
}
