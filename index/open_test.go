package index_test

import (
	"encoding/binary"
	"math/bits"
	"slices"
	"strconv"
	"strings"
	"testing"

	"barograph/api"
	"barograph/index"
)

// some are entries of which an index has everything: none, one and two labels, none, one and two chunks, symbols that are names and values.
func some() []api.Entry {
	return entries(
		entry(nil, place(-7, -7, 1, 0, 2)),
		entry(set("a", "b", "b", "x"), place(1, 5, 120, 2, 300), place(6, 6, 1, 302, 9)),
		entry(set("a", "y")),
		entry(set("a", "y", "b", "x"), place(0, 1<<53, 2, 1<<31-1, 0)),
		entry(set("b", "x")),
	)
}

// resummed are bytes with the right sum behind them, in place of the last four.
func resummed(b []byte) []byte { return summed(string(b[:len(b)-4])) }

// isMalformed asks Open for ErrIndexForm: of bytes with a right sum that are no result of Encode.
func isMalformed(t *testing.T, what string, b []byte) {
	t.Helper()
	if _, errno := opened(b); errno != api.ErrIndexForm {
		t.Errorf("%s: %x is told by the chapter as %v", what, b, errno)
	}
	openFails(t, what, b, api.ErrIndexForm)
}

// differs asks the same of what is said when the content of an index is changed.
func differs(t *testing.T, what string, l []api.Entry, change func(c *content)) {
	t.Helper()
	c := contentOf(l)
	change(&c)
	isMalformed(t, what, c.bytes())
}

// Fewer than four bytes have no sum.
func TestOpenOfFewerThanFourBytes(t *testing.T) {
	openFails(t, "nil", nil, api.ErrIndexSum)
	for _, s := range []string{"", "\x00", "B", "\x00\x00", "BG", "\x00\x00\x00", "BGI", "\xff\xff\xff"} {
		openFails(t, "short", []byte(s), api.ErrIndexSum)
		openFails(t, "short, with more behind it", []byte(s + "\x00\x00\x00\x00\x00")[:len(s)], api.ErrIndexSum)
	}
	openFails(t, "the sum of nothing", []byte{0, 0, 0, 0}, api.ErrIndexForm)
	openFails(t, "not the sum of nothing", []byte("BGIX"), api.ErrIndexSum)
	openFails(t, "not the sum of nothing", []byte{1, 0, 0, 0}, api.ErrIndexSum)
}

// A wrong sum is told, whatever the bytes ahead of it are.
func TestOpenOfAWrongSum(t *testing.T) {
	for _, l := range [][]api.Entry{nil, ofSets(set("a", "1")), some(), ofSets(set("a", "2"), set("a", "1"))} {
		c := contentOf(l)
		for _, change := range []func(c *content){
			func(c *content) {},
			func(c *content) { c.magic = "BGIY" },
			func(c *content) { c.magic = "" },
			func(c *content) { c.symbols = append(c.symbols, "zz") },
			func(c *content) { c.counted = [3]int{-1, 0, 0} },
			func(c *content) { c.lines = nil },
			func(c *content) { c.behind = "\x00" },
		} {
			change(&c)
			for i := range 32 {
				c.otherSum = 1 << i
				openFails(t, "a wrong sum", c.bytes(), api.ErrIndexSum)
			}
			c.otherSum = 0xffffffff
			openFails(t, "a wrong sum", c.bytes(), api.ErrIndexSum)
		}
	}
	b := contentOf(some()).bytes()
	sum := binary.LittleEndian.Uint32(b[len(b)-4:])
	for _, other := range []uint32{0, bits.ReverseBytes32(sum), bits.Reverse32(sum), ^sum, sum + 1, checksum(string(b)), checksum(string(b[:len(b)-5])), checksum(string(b[1 : len(b)-4]))} {
		binary.LittleEndian.PutUint32(b[len(b)-4:], other)
		openFails(t, "another sum", b, api.ErrIndexSum)
	}
}

// Indexes begin with BGIX.
func TestOpenOfAnotherBeginning(t *testing.T) {
	for _, l := range [][]api.Entry{nil, ofSets(set("a", "1")), some()} {
		for _, magic := range []string{"", "B", "BGI", "BGIY", "bgix", "XIGB", "BGIx", "BGBL", "BGX1", "BGI\x00", "\x00\x00\x00\x00", "BGIXB", "BGIXBGIX", " BGIX", "\x00BGIX"} {
			differs(t, "begins with "+magic, l, func(c *content) { c.magic = magic })
		}
	}
}

// An index that is cut off at any place, or begins at any other one, is none; nor is one with something behind its end.
func TestOpenOfPieces(t *testing.T) {
	for _, l := range [][]api.Entry{nil, ofSets(nil), ofSets(set("a", "1")), some()} {
		b := contentOf(l).bytes()
		content := string(b[:len(b)-4])
		for at := range content {
			isMalformed(t, "cut off", summed(content[:at]))
			if at > 0 {
				isMalformed(t, "begun later", summed(content[at:]))
				isMalformed(t, "a byte lacks", summed(content[:at]+content[at+1:]))
			}
			for _, more := range []string{"\x00", "\xff"} {
				if b := summed(content[:at] + more + content[at:]); opensAsTheChapter(t, "a byte more", b) != api.ErrIndexForm {
					t.Errorf("a byte more, at %d, is an index", at)
				}
			}
		}
		for _, behind := range []string{"\x00", "\x00\x00\x00\x00", "x", content, string(b), strings.Repeat("\x00", 1000)} {
			isMalformed(t, "something behind the end", summed(content+behind))
		}
		isMalformed(t, "the sum twice", summed(string(b)))
	}
}

// Symbols stand in increasing order, each once; all of them are used, and none lacks.
func TestOpenOfOtherSymbols(t *testing.T) {
	l := some() // a b x y
	symbols := func(symbols ...string) func(c *content) {
		return func(c *content) { c.symbols = symbols }
	}
	differs(t, "none", l, symbols())
	differs(t, "the last lacks", l, symbols("a", "b", "x"))
	differs(t, "the first lacks", l, symbols("b", "x", "y"))
	differs(t, "one more behind", l, symbols("a", "b", "x", "y", "z"))
	differs(t, "the last twice", l, symbols("a", "b", "x", "y", "y"))
	differs(t, "the first twice", l, symbols("a", "a", "x", "y"))
	differs(t, "one twice", l, symbols("a", "b", "x", "x"))
	differs(t, "two are swapped", l, symbols("a", "b", "y", "x"))
	differs(t, "two are swapped", l, symbols("b", "a", "x", "y"))
	differs(t, "all are turned round", l, symbols("y", "x", "b", "a"))
	differs(t, "an empty one", l, symbols("a", "b", "", "y"))
	differs(t, "no name", l, symbols("1", "b", "x", "y"))
	differs(t, "a long one", l, symbols("a", "b", "x", strings.Repeat("y", 1025)))
	differs(t, "a very long one", l, symbols("a", "b", "x", strings.Repeat("y", 65535)))
	for _, good := range []string{"a b x z", "A b x y", "a b x\x00 y", "_ a0 b y"} {
		c := contentOf(l)
		c.symbols = strings.Fields(good)
		if opensAsTheChapter(t, "other symbols", c.bytes()) != api.OK {
			t.Errorf("%s are symbols in order", good)
		}
	}
	differs(t, "one is used by nobody", nil, symbols("a"))
	differs(t, "one is used by nobody", ofSets(nil), symbols("a"))
	differs(t, "the empty one is used by nobody", nil, symbols(""))
}

// A symbol that isn't used, or is there twice, stays one, though all numbers are as they then have to be.
func TestOpenOfSymbolsTooMany(t *testing.T) {
	for at := range 5 {
		for _, symbol := range []string{"", "A", "aa", "bb", "xx", "z", "a", "b", "x", "y"} {
			differs(t, "a symbol too many", some(), func(c *content) {
				c.symbols = slices.Insert(c.symbols, at, symbol)
				behind := func(n *int) {
					if *n >= at {
						*n++
					}
				}
				for _, r := range c.rows {
					for i := range r.labels {
						behind(&r.labels[i][0])
						behind(&r.labels[i][1])
					}
				}
				for i := range c.lines {
					behind(&c.lines[i].label[0])
					behind(&c.lines[i].label[1])
				}
			})
		}
	}
	// Some entries name the one, and some the other of two same symbols.
	differs(t, "a name that is two symbols", ofSets(set("a", "x"), set("a", "y")), func(c *content) {
		c.symbols = []string{"a", "a", "x", "y"}
		c.rows = []row{{labels: [][2]int{{0, 2}}}, {labels: [][2]int{{1, 3}}}}
		c.lines = linesOf(c.rows)
	})
}

// The number of a symbol is that of one.
func TestOpenOfNumbersOfSymbols(t *testing.T) {
	for _, n := range []int{4, 5, 255, 256, 65536, 1<<31 - 1, 1 << 31, 1<<32 - 1, 1<<32 - 4} {
		for at := range 2 {
			differs(t, "in an entry", some(), func(c *content) { c.rows[1].labels[1][at] = n })
			differs(t, "in an entry", some(), func(c *content) { c.rows[4].labels[0][at] = n })
			differs(t, "in a posting", some(), func(c *content) { c.lines[0].label[at] = n })
			differs(t, "in a posting", some(), func(c *content) { c.lines[len(c.lines)-1].label[at] = n })
		}
	}
	differs(t, "there is none", ofSets(nil), func(c *content) { c.rows[0].labels = [][2]int{{0, 0}} })
	differs(t, "there is none", ofSets(nil), func(c *content) { c.rows[0].labels = [][2]int{{1<<32 - 1, 1<<32 - 1}} })
	for n := range 4 { // other symbols that there are: some make another index, most make none
		for at := range 2 {
			for i := range 5 {
				c := contentOf(some())
				for j := range c.rows[i].labels {
					c.rows[i].labels[j][at] = n
					opensAsTheChapter(t, "another symbol", c.bytes())
					c.lines = linesOf(c.rows)
					opensAsTheChapter(t, "another symbol, and its postings", c.bytes())
				}
			}
		}
	}
}

// Entries may not be told in another order, twice, or not at all.
func TestOpenOfOtherEntries(t *testing.T) {
	for i := range 4 {
		differs(t, "two entries are swapped", some(), func(c *content) { c.rows[i], c.rows[i+1] = c.rows[i+1], c.rows[i] })
		differs(t, "two entries are swapped, and their postings", some(), func(c *content) {
			c.rows[i], c.rows[i+1] = c.rows[i+1], c.rows[i]
			c.lines = linesOf(c.rows)
		})
		differs(t, "an entry stands twice", some(), func(c *content) { c.rows = slices.Insert(c.rows, i, c.rows[i]) })
		differs(t, "an entry stands twice, and in the postings", some(), func(c *content) {
			c.rows = slices.Insert(c.rows, i, c.rows[i])
			c.lines = linesOf(c.rows)
		})
	}
	for i := 1; i < 5; i++ {
		differs(t, "an entry lacks", some(), func(c *content) { c.rows = slices.Delete(c.rows, i, i+1) })
	}
	differs(t, "labels are swapped", some(), func(c *content) { slices.Reverse(c.rows[1].labels) })
	differs(t, "a label stands twice", some(), func(c *content) { c.rows[2].labels = slices.Repeat(c.rows[2].labels, 2) })
	differs(t, "chunks are swapped", some(), func(c *content) { slices.Reverse(c.rows[1].chunks) })
	differs(t, "a chunk stands twice", some(), func(c *content) { c.rows[0].chunks = slices.Repeat(c.rows[0].chunks, 2) })
	differs(t, "the postings of no entries", some(), func(c *content) { c.rows = nil })
}

// Postings lack, are too many, stand in a wrong order, or name the wrong entries.
func TestOpenOfOtherPostings(t *testing.T) {
	l := some()
	differs(t, "none", l, func(c *content) { c.lines = nil })
	lines := contentOf(l).lines
	for i, p := range lines {
		differs(t, "one lacks", l, func(c *content) { c.lines = slices.Delete(c.lines, i, i+1) })
		differs(t, "one stands twice", l, func(c *content) { c.lines = slices.Insert(c.lines, i, p) })
		differs(t, "one stands twice", l, func(c *content) { c.lines = append(c.lines, p) })
		for j := range i {
			differs(t, "two are swapped", l, func(c *content) { c.lines[i], c.lines[j] = c.lines[j], c.lines[i] })
		}
		differs(t, "one has no entries", l, func(c *content) { c.lines[i].entries = nil })
		differs(t, "the last entry of one lacks", l, func(c *content) { c.lines[i].entries = p.entries[:len(p.entries)-1] })
		differs(t, "the first entry of one lacks", l, func(c *content) { c.lines[i].entries = p.entries[1:] })
		differs(t, "an entry stands twice", l, func(c *content) { c.lines[i].entries = append(slices.Clone(p.entries), p.entries[0]) })
		for n := range 5 {
			if !slices.Contains(p.entries, n) {
				more := append(slices.Clone(p.entries), n)
				slices.Sort(more)
				differs(t, "an entry is named without the label", l, func(c *content) { c.lines[i].entries = more })
			}
		}
		if len(p.entries) > 1 {
			differs(t, "entries in a wrong order", l, func(c *content) { slices.Reverse(c.lines[i].entries) })
		}
		for _, n := range []int{5, 6, 255, 65536, 1<<31 - 1, 1 << 31, 1<<32 - 1} {
			differs(t, "an entry that isn't there", l, func(c *content) { c.lines[i].entries[0] = n })
			differs(t, "one more that isn't there", l, func(c *content) { c.lines[i].entries = append(c.lines[i].entries, n) })
		}
		for at := range 2 {
			for n := range 4 {
				if n != p.label[at] {
					differs(t, "another label", l, func(c *content) { c.lines[i].label[at] = n })
				}
			}
		}
	}
	differs(t, "two have each other's entries", ofSets(set("a", "1"), set("a", "2")), func(c *content) {
		c.lines[0].entries, c.lines[1].entries = c.lines[1].entries, c.lines[0].entries
	})
	differs(t, "name and value are swapped", ofSets(set("a", "1")), func(c *content) { slices.Reverse(c.lines[0].label[:]) })
	differs(t, "of nothing", nil, func(c *content) { c.lines = []line{{}} })
	differs(t, "of an entry without labels", ofSets(nil), func(c *content) { c.lines = []line{{entries: ints(0)}} })
	differs(t, "a label that nobody has", ofSets(set("a", "1")), func(c *content) { c.lines = append(c.lines, line{label: [2]int{1, 1}}) })
}

// counts are the places in the bytes of some() where a number says how many things follow, and in how many bytes.
func counts(t *testing.T) (at []int, width []int) {
	t.Helper()
	note := func(place, bytes int) {
		at, width = append(at, place), append(width, bytes)
	}
	place := 4
	note(place, 4)
	place += 4
	for range 4 {
		note(place, 2)
		place += 3
	}
	note(place, 4)
	place += 4
	for _, e := range some() {
		note(place, 1)
		place += 1 + 8*len(e.Labels)
		note(place, 4)
		place += 4 + 26*len(e.Chunks)
	}
	note(place, 4)
	place += 4
	for _, p := range contentOf(some()).lines {
		note(place+8, 4)
		place += 12 + 4*len(p.entries)
	}
	if b := contentOf(some()).bytes(); place != len(b)-4 {
		t.Fatalf("the counts end at %d of %d", place, len(b)-4)
	}
	return at, width
}

// Whatever number of things is told, there is an answer, and it is that the bytes are no index.
func TestOpenOfOtherCounts(t *testing.T) {
	b := contentOf(some()).bytes()
	at, width := counts(t)
	for i := range at {
		number := b[at[i] : at[i]+width[i]]
		was := binary.LittleEndian.Uint32(append(slices.Clone(number), 0, 0, 0, 0))
		for _, n := range []uint32{0, 1, 2, 3, 4, 5, 6, 64, 65, 120, 255, 256, 1024, 1025, 4096, 4097, 65535, 65536, 524288, 524289, 1 << 24, 1<<31 - 1, 1 << 31, 1<<32 - 2, 1<<32 - 1, was + 1, was - 1} {
			if n == was || bits.Len32(n) > 8*width[i] {
				continue
			}
			c := slices.Clone(b)
			copy(c[at[i]:], little(int64(n), width[i]))
			isMalformed(t, strconv.Itoa(int(n))+" in place of "+strconv.Itoa(int(was)), resummed(c))
		}
	}
	differs(t, "a symbol more", some(), func(c *content) { c.counted[0] = 1 })
	differs(t, "an entry more", some(), func(c *content) { c.counted[1] = 1 })
	differs(t, "a posting more", some(), func(c *content) { c.counted[2] = 1 })
	differs(t, "as many as there may be", nil, func(c *content) { c.counted = [3]int{1<<32 - 1, 1<<32 - 1, 1<<32 - 1} })
	differs(t, "as many as there may be", nil, func(c *content) { c.counted[1] = 1<<32 - 1 })
	differs(t, "as many as there may be", nil, func(c *content) { c.counted[2] = 1<<32 - 1 })
	for i := range 5 {
		differs(t, "a label more", some(), func(c *content) { c.rows[i].counted[0] = 1 })
		differs(t, "a chunk more", some(), func(c *content) { c.rows[i].counted[1] = 1 })
		differs(t, "an entry of a posting more", some(), func(c *content) { c.lines[min(i, 2)].counted = 1 })
	}
}

// Each byte of an index, with every other value: most make no index, some make another one.
func TestOpenOfEachOtherByte(t *testing.T) {
	told := map[api.Errno]int{}
	for _, l := range [][]api.Entry{nil, ofSets(nil), ofSets(set("a", "1")), some()} {
		b := contentOf(l).bytes()
		for at := range b[:len(b)-4] {
			for x := range 256 {
				if byte(x) != b[at] {
					c := slices.Clone(b)
					c[at] = byte(x)
					told[opensAsTheChapter(t, "another byte", resummed(c))]++
				}
			}
		}
	}
	if told[api.OK] < 2000 || told[api.ErrIndexForm] < 50000 || len(told) != 2 {
		t.Errorf("%v", told)
	}
}

// Entries of an index in any order make the same bytes only in their own.
func TestOpenHasOneForm(t *testing.T) {
	for _, l := range [][]api.Entry{nil, ofSets(nil), ofSets(set("a", "1")), some(), many(300)} {
		b, _ := index.Encode(l)
		x := opens(t, b)
		var again []api.Entry
		for n := range x.Len() {
			e, errno := x.Entry(n)
			if errno != api.OK {
				t.Fatal(errno)
			}
			again = append(again, e)
		}
		encodes(t, again, b)
	}
}

// No bytes, however few or whatever they are, get in the way of an answer.
func TestOpenOfAnyBytes(t *testing.T) {
	x := dice(1401)
	for size := range 300 {
		b := make([]byte, size)
		for range 20 {
			for i := range b {
				b[i] = byte(x.below(256) >> x.below(9))
			}
			opensAsTheChapter(t, "any bytes", b)
			opensAsTheChapter(t, "any bytes with a sum", summed(string(b)))
			opensAsTheChapter(t, "any bytes with a beginning and a sum", summed("BGIX"+string(b)))
			opensAsTheChapter(t, "any bytes behind no symbols", summed("BGIX\x00\x00\x00\x00"+string(b)))
			opensAsTheChapter(t, "any bytes behind a symbol", summed("BGIX\x01\x00\x00\x00\x01\x00a"+string(b)))
		}
	}
}
