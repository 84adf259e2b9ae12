package index_test

import (
	"encoding/hex"
	"slices"
	"strconv"
	"strings"
	"testing"

	"barograph/api"
	"barograph/index"
)

// unhex takes bytes as they are written down, with spaces and lines between.
func unhex(t *testing.T, s string) string {
	t.Helper()
	b, err := hex.DecodeString(strings.Join(strings.Fields(s), ""))
	if err != nil {
		t.Fatal(err)
	}
	return string(b)
}

// isWritten asks Encode for bytes that are written down, with the sum behind them, and Open for the entries.
func isWritten(t *testing.T, l []api.Entry, s string) {
	t.Helper()
	want := summed(unhex(t, s))
	encodes(t, l, want)
	isAsTheChapter(t, opens(t, want), l)
}

// The chapter's examples.
func TestExamples(t *testing.T) {
	b, errno := index.Encode(nil)
	if errno != api.OK || len(b) != 20 || string(b[:16]) != "BGIX\x00\x00\x00\x00\x00\x00\x00\x00\x00\x00\x00\x00" {
		t.Errorf("Encode() = %x, %v", b, errno)
	}
	x := indexOf(t, entry(set("a", "1")))
	symbolsAre(t, x, "1", "a")
	ofIs(t, x, "a", "1", 0)
	isWrong(t, "a wrong order", ofSets(set("a", "2"), set("a", "1")))
	openFails(t, "3 bytes", []byte{1, 2, 3}, api.ErrIndexSum)
}

// No entries; the sum was worked out bit by bit elsewhere.
func TestBytesOfNoEntries(t *testing.T) {
	if checksum("123456789") != 0xe3069283 {
		t.Fatal("the checksum of these tests")
	}
	want := "42474958 00000000 00000000 00000000"
	isWritten(t, nil, want)
	isWritten(t, []api.Entry{}, want)
	encodes(t, nil, []byte(unhex(t, want+"63623361")))
}

// One entry without labels and without chunks, with one of both, and with both.
func TestBytesOfOneEntry(t *testing.T) {
	isWritten(t, entries(entry(nil)), "42474958 00000000 01000000 00 00000000 00000000")
	isWritten(t, entries(entry([]api.Label{}, []api.Place{}...)), "42474958 00000000 01000000 00 00000000 00000000")
	isWritten(t, entries(entry(set("a", "1"))), `
		42474958 02000000 0100 31 0100 61
		01000000 01 01000000 00000000 00000000
		01000000 01000000 00000000 01000000 00000000`)
	isWritten(t, entries(entry(nil, place(1, 5, 2, 0, 9))), `
		42474958 00000000
		01000000 00 01000000 0100000000000000 0500000000000000 0200 00000000 09000000
		00000000`)
	isWritten(t, entries(entry(set("a", "1", "bc", "def"), place(-1, -1, 120, 7, 300), place(0, 258, 3, 0, 65536))), `
		42474958 04000000 0100 31 0100 61 0200 6263 0300 646566
		01000000 02 01000000 00000000 02000000 03000000 02000000
		ffffffffffffffff ffffffffffffffff 7800 07000000 2c010000
		0000000000000000 0201000000000000 0300 00000000 00000100
		02000000 01000000 00000000 01000000 00000000 02000000 03000000 01000000 00000000`)
}

// Several entries: postings stand by the numbers of name and value, their entries by their numbers.
func TestBytesOfSeveralEntries(t *testing.T) {
	l := entries(
		entry(nil),
		entry(set("a", "1"), place(0, 1, 1, 2, 3)),
		entry(set("a", "1", "b", "2")),
		entry(set("a", "2"), place(4, 5, 6, 7, 8)),
		entry(set("b", "1")),
		entry(set("b", "2")),
	)
	isWritten(t, l, `
		42474958 04000000 0100 31 0100 32 0100 61 0100 62
		06000000
		00 00000000
		01 02000000 00000000 01000000 0000000000000000 0100000000000000 0100 02000000 03000000
		02 02000000 00000000 03000000 01000000 00000000
		01 02000000 01000000 01000000 0400000000000000 0500000000000000 0600 07000000 08000000
		01 03000000 00000000 00000000
		01 03000000 01000000 00000000
		04000000
		02000000 00000000 02000000 01000000 02000000
		02000000 01000000 01000000 03000000
		03000000 00000000 01000000 04000000
		03000000 01000000 02000000 02000000 05000000`)
}

// A name and a value may be the same symbol, which is there once; so may the values of several names.
func TestBytesOfSymbolsThatAreUsedTwice(t *testing.T) {
	isWritten(t, entries(entry(set("a", "a"))), `
		42474958 01000000 0100 61
		01000000 01 00000000 00000000 00000000
		01000000 00000000 00000000 01000000 00000000`)
	isWritten(t, ofSets(set("a", "b", "b", "a"), set("a", "b", "b", "b"), set("b", "a")), `
		42474958 02000000 0100 61 0100 62
		03000000
		02 00000000 01000000 01000000 00000000 00000000
		02 00000000 01000000 01000000 01000000 00000000
		01 01000000 00000000 00000000
		03000000
		00000000 01000000 02000000 00000000 01000000
		01000000 00000000 02000000 00000000 02000000
		01000000 01000000 01000000 01000000`)
}

// Symbols stand by their bytes, whatever these are, and not by where they are used.
func TestOrderOfSymbols(t *testing.T) {
	values := []string{"\x00", "\x00\x00", " ", "10", "9", "A", "_", "a", "a\x00", "aa", "a\xff", "b", "\x7f", "\x80", "é", "\xff", "\xff\xff"}
	var l []api.Entry
	for _, value := range values {
		l = append(l, entry(set("m", value, "z", "x")))
	}
	x := indexOf(t, l...)
	symbolsAre(t, x, "\x00", "\x00\x00", " ", "10", "9", "A", "_", "a", "a\x00", "aa", "a\xff", "b", "m", "x", "z", "\x7f", "\x80", "é", "\xff", "\xff\xff")
	b, _ := index.Encode(l)
	if want := unhex(t, "14000000 0100 00 0200 0000 0100 20 0200 3130 0100 39 0100 41 0100 5f 0100 61 0200 6100"); !strings.HasPrefix(string(b[4:]), want) {
		t.Errorf("%x, want %x", b, want)
	}
}

// Each number is written in its width, the lowest byte first.
func TestWidthsOfNumbers(t *testing.T) {
	chunk := func(p api.Place) string {
		b, errno := index.Encode(entries(entry(nil, p)))
		if errno != api.OK || len(b) != 51 {
			t.Fatalf("Encode of %+v = %x, %v", p, b, errno)
		}
		return hex.EncodeToString(b[17:43])
	}
	for want, p := range map[string]api.Place{
		"0100000000000000 0807060504030200 7800 04030201 08070605": place(1, 0x02030405060708, 120, 0x01020304, 0x05060708),
		"f8f8f9fafbfcfdff 0000000000000000 0100 00000000 ffffff7f": place(-0x02030405060708, 0, 1, 0, 1<<31-1),
		"000000000000e0ff 000000000000e0ff 0200 ffffff7f 00000000": place(-1<<53, -1<<53, 2, 1<<31-1, 0),
		"0000000000002000 0000000000002000 7700 80000000 00800000": place(1<<53, 1<<53, 119, 128, 32768),
		"ffffffffffffffff 0001000000000000 0300 ff000000 00010000": place(-1, 256, 3, 255, 256),
	} {
		if got := chunk(p); got != strings.ReplaceAll(want, " ", "") {
			t.Errorf("%+v: %s, want %s", p, got, want)
		}
	}
	long := strings.Repeat("v", 1024)
	b, _ := index.Encode(entries(entry(set("a", long, strings.Repeat("b", 258), "x"))))
	if want := unhex(t, "42474958 04000000 0100 61 0201") + strings.Repeat("b", 258) + unhex(t, "0004") + long + unhex(t, "0100 78 01000000 02 00000000 02000000 01000000 03000000"); !strings.HasPrefix(string(b), want) {
		t.Errorf("%x", b)
	}
}

// Counts and numbers of more than one byte: 64 labels, 300 chunks, 69365 symbols, postings of more than 256 entries.
func TestGreatCounts(t *testing.T) {
	l := entries(entry(numbered(64)))
	for i := range 300 {
		l[0].Chunks = append(l[0].Chunks, place(int64(i), int64(i), 1, i, i))
	}
	b, _ := index.Encode(l)
	if want := unhex(t, "01000000 40"); string(b[8+64*6+3:][:5]) != want {
		t.Errorf("%x, want %x", b[8+64*6+3:][:5], want)
	}
	if want := unhex(t, "2c010000"); string(b[8+64*6+3+5+512:][:4]) != want {
		t.Errorf("%x, want %x", b[8+64*6+3+5+512:][:4], want)
	}
	isAsTheChapter(t, indexOf(t, l...), l)

	l = manySymbols()
	want, _ := encoded(l)
	encodes(t, l, want)
	if s := unhex(t, "f50e0100"); string(want[4:8]) != s {
		t.Errorf("%x, want %x", want[4:8], s)
	}
	x := opens(t, want)
	ofIs(t, x, "n062", "169299", 1099)
	if all := x.Of("z", "same"); len(all) != 1100 || all[0] != 0 || all[1099] != 1099 {
		t.Errorf("%d entries", len(all))
	}
	if got := x.Symbols(); !slices.Equal(got, symbolsOf(l)) {
		t.Errorf("%d symbols", len(got))
	}
}

// manySymbols are entries with more symbols than two bytes count: 1100 times 63 values of their own, one that all of them have, and 64 names.
func manySymbols() []api.Entry {
	var l []api.Entry
	for i := range 1100 {
		set := numbered(63)
		for j := range set {
			set[j].Value = strconv.Itoa(100000 + 63*i + j)
		}
		l = append(l, entry(append(set, api.Label{Name: "z", Value: "same"})))
	}
	return l
}
