package index_test

import (
	"slices"
	"strconv"
	"strings"
	"testing"

	"barograph/api"
	"barograph/index"
)

// many are so many entries of one label each; the values rise.
func many(n int) []api.Entry {
	var l []api.Entry
	for i := range n {
		l = append(l, entry(set("a", strconv.Itoa(10000+i))))
	}
	return l
}

// There are at most 4096 entries.
func TestMostEntries(t *testing.T) {
	for _, n := range []int{4095, 4096} {
		want, _ := encoded(many(n))
		encodes(t, many(n), want)
		x := opens(t, want)
		lenIs(t, x, n)
		has(t, x, 0, entry(set("a", "10000")))
		has(t, x, n-1, entry(set("a", strconv.Itoa(9999+n))))
		ofIs(t, x, "a", strconv.Itoa(9999+n), n-1)
		ofIs(t, x, "a", strconv.Itoa(10000+n))
	}
	for _, n := range []int{4097, 4098, 8192, 65536} {
		isWrong(t, strconv.Itoa(n)+" entries", many(n))
	}
	isWrong(t, "4097 entries, the first without labels", append(ofSets(nil), many(4096)...))
	isWrong(t, "4097 same entries", ofSets(make([][]api.Label, 4097)...))
}

// As many symbols as there may be: all names and all values of the most entries, with the most labels, are others.
func TestMostSymbols(t *testing.T) {
	var l []api.Entry
	for n := range 4096 {
		var set []api.Label
		for i := range 64 {
			number := strconv.Itoa(1000000 + 64*n + i)
			set = append(set, api.Label{Name: "n" + number, Value: number})
		}
		l = append(l, entry(set))
	}
	want, _ := encoded(l)
	encodes(t, l, want)
	x := opens(t, want)
	if got := x.Symbols(); len(got) != 2*64*4096 || !slices.Equal(got, symbolsOf(l)) {
		t.Errorf("%d symbols", len(got))
	}
	has(t, x, 4095, l[4095])
	ofIs(t, x, "n1262143", "1262143", 4095)
	selects(t, x, list(eq("n1000063", "1000063")), 0)
	selects(t, x, list(re("n1262080", ".+")), 4095)
	isWrong(t, "4097 entries", append(l, entry(set("z", "1"))))
}

// badSets are lists that are no sets.
func badSets() [][]api.Label {
	long := strings.Repeat("x", 1025)
	return [][]api.Label{
		set("", "x"), set("1a", "x"), set("a b", "x"), set("a:b", "x"), set("\xff", "x"), set(long, "x"),
		set("a", ""), set("a", long), set("a", "1", "b", ""), set("a", "", "b", "1"), set("a", "1", "", "1"),
		set("b", "2", "a", "1"), set("a", "1", "c", "3", "b", "2"),
		set("a", "1", "a", "1"), set("a", "1", "a", "2"), set("a", "1", "b", "2", "b", "2"), set("a", "1", "b", "2", "a", "1"),
		numbered(65), numbered(255), slices.Repeat(set("a", "1"), 65),
	}
}

// The labels of each entry are a set.
func TestLabelsAreSets(t *testing.T) {
	for _, bad := range badSets() {
		isWrong(t, "no set alone", ofSets(bad))
		isWrong(t, "no set first", ofSets(bad, set("zz", "1")))
		isWrong(t, "no set last", ofSets(nil, set("B", "1"), bad))
		isWrong(t, "no set between", entries(entry(set("B", "1"), place(1, 2, 3, 4, 5)), entry(bad, place(1, 2, 3, 4, 5)), entry(set("zz", "1"))))
	}
	long := strings.Repeat("x", 1024)
	for _, good := range [][]api.Label{nil, set("a", "1"), set(long, "1"), set("a", long), set(long, long), numbered(63), numbered(64), set("_", "\x00", "a1", "\xff")} {
		indexOf(t, entry(good))
		indexOf(t, entry(good), entry(set("zz", "1")))
	}
	if _, errno := index.Encode(ofSets(numbered(1000))); errno != api.ErrIndexForm {
		t.Errorf("1000 labels: %v", errno)
	}
}

// The labels of each entry are greater than those of the one before it.
func TestLabelsRise(t *testing.T) {
	rising := [][]api.Label{
		nil, set("A", "1"), set("_", "1"), set("a", "\x00"), set("a", "1"), set("a", "1", "b", "1"), set("a", "1", "b", "1", "c", "1"), set("a", "1", "b", "2"), set("a", "1", "c", "1"),
		set("a", "11"), set("a", "2"), set("a", "\xff"), set("a", "\xff\xff"), set("aa", "1"), set("ab", "1"), set("b", "0"), set("b", "0", "c", "1"), set("b", "1"),
	}
	indexOf(t, ofSets(rising...)...)
	for i, a := range rising {
		isWrong(t, "the same", ofSets(a, a))
		isWrong(t, "the same behind others", ofSets(append(slices.Clone(rising[:i+1]), a)...))
		for _, b := range rising[i+1:] {
			indexOf(t, entry(a), entry(b))
			isWrong(t, "a wrong order", ofSets(b, a))
		}
	}
	for i := range len(rising) - 1 {
		swapped := slices.Clone(rising)
		swapped[i], swapped[i+1] = swapped[i+1], swapped[i]
		isWrong(t, "two are swapped", ofSets(swapped...))
		isWrong(t, "one stands twice", ofSets(slices.Insert(slices.Clone(rising), i, rising[i])...))
	}
	isWrong(t, "the same with other chunks", entries(entry(set("a", "1")), entry(set("a", "1"), place(1, 1, 1, 1, 1))))
}

// chunksAre holds chunks of an entry to be valid, or not to be, wherever the entry and the chunks stand.
func chunksAre(t *testing.T, valid bool, l ...api.Place) {
	t.Helper()
	before, behind := place(-1<<53, -1<<53, 1, 0, 0), place(1<<53, 1<<53, 1, 0, 0)
	all := [][]api.Entry{
		entries(entry(nil, l...)),
		entries(entry(set("a", "1"), place(5, 6, 7, 8, 9)), entry(set("a", "2"), l...), entry(set("a", "3"))),
	}
	if l[0].From > before.To {
		all = append(all, entries(entry(set("a", "1"), append([]api.Place{before}, l...)...)))
	}
	if l[len(l)-1].To < behind.From {
		all = append(all, entries(entry(set("a", "1"), append(slices.Clone(l), behind)...)))
	}
	for _, l := range all {
		if valid {
			indexOf(t, l...)
		} else {
			isWrong(t, "wrong chunks", l)
		}
	}
}

// From is not greater than To.
func TestFromAndTo(t *testing.T) {
	for _, at := range []int64{0, 1, -1, 5, -5, 1 << 32, 1<<53 - 1, 1 - 1<<53} {
		chunksAre(t, true, place(at, at, 1, 0, 0))
		chunksAre(t, true, place(at, at+1, 1, 0, 0))
		chunksAre(t, true, place(at-1, at, 1, 0, 0))
		chunksAre(t, false, place(at+1, at, 1, 0, 0))
		chunksAre(t, false, place(at, at-1, 1, 0, 0))
	}
	chunksAre(t, true, place(-1<<53, 1<<53, 1, 0, 0))
	chunksAre(t, false, place(1<<53, -1<<53, 1, 0, 0))
}

// From and To are from -2^53 to 2^53.
func TestBoundsOfTimes(t *testing.T) {
	for _, at := range []int64{-1 << 53, 1<<53 - 1, 1 << 53} {
		chunksAre(t, true, place(at, at, 1, 0, 0))
	}
	chunksAre(t, true, place(-1<<53, 0, 1, 0, 0))
	chunksAre(t, true, place(0, 1<<53, 1, 0, 0))
	for _, far := range []int64{1<<53 + 1, 1<<53 + 2, 1 << 54, 1 << 62, greatest} {
		chunksAre(t, false, place(far, far, 1, 0, 0))
		chunksAre(t, false, place(0, far, 1, 0, 0))
		chunksAre(t, false, place(-far, -far, 1, 0, 0))
		chunksAre(t, false, place(-far, 0, 1, 0, 0))
		chunksAre(t, false, place(-far, far, 1, 0, 0))
	}
	chunksAre(t, false, place(least, least, 1, 0, 0))
	chunksAre(t, false, place(least, greatest, 1, 0, 0))
	chunksAre(t, false, place(least, 0, 1, 0, 0))
}

// N is from 1 to 120.
func TestBoundsOfN(t *testing.T) {
	for n := 1; n <= 120; n++ {
		chunksAre(t, true, place(0, 0, n, 0, 0))
	}
	for _, n := range []int{0, 121, 122, 128, 255, 256, 65535, 1 << 31, greatest, -1, -120, least} {
		chunksAre(t, false, place(0, 0, n, 0, 0))
	}
	// What two bytes hold of these is from 1 to 120.
	for _, n := range []int{65536 + 1, 65536 + 120, 1<<32 + 5, -65536 + 1, -1<<32 + 120} {
		encodeFails(t, place(0, 0, n, 0, 0))
	}
}

// encodeFails asks Encode for the error: of chunks whose numbers have no bytes of the format.
func encodeFails(t *testing.T, p api.Place) {
	t.Helper()
	for _, l := range [][]api.Entry{entries(entry(nil, p)), entries(entry(set("a", "1")), entry(set("a", "2"), place(-9, -9, 1, 0, 0), p))} {
		if b, errno := index.Encode(l); errno != api.ErrIndexForm || b != nil {
			t.Errorf("Encode(%s) = %x, %v, want errno 140", shown(l...), b, errno)
		}
	}
}

// At and Size are from 0 to 2^31 - 1.
func TestBoundsOfAtAndSize(t *testing.T) {
	for _, n := range []int{0, 1, 255, 65536, 1<<31 - 2, 1<<31 - 1} {
		chunksAre(t, true, place(0, 0, 1, n, 7))
		chunksAre(t, true, place(0, 0, 1, 7, n))
		chunksAre(t, true, place(0, 0, 1, n, n))
	}
	for _, n := range []int{-1, -2, 1 << 31, 1<<31 + 1, 1<<32 - 1, -1 << 31} {
		chunksAre(t, false, place(0, 0, 1, n, 7))
		chunksAre(t, false, place(0, 0, 1, 7, n))
		chunksAre(t, false, place(0, 0, 1, n, n))
	}
	// What four bytes hold of these is from 0 to 2^31 - 1.
	for _, n := range []int{1 << 32, 1<<32 + 5, least, least + 7, 1<<62 + 1} {
		encodeFails(t, place(0, 0, 1, n, 7))
		encodeFails(t, place(0, 0, 1, 7, n))
	}
}

// Within an entry, each From is greater than the previous To.
func TestChunksRise(t *testing.T) {
	for _, to := range []int64{0, -1, 1, 10, 1 << 40, 1<<53 - 2, -1 << 52} {
		first := place(to-3, to, 1, 0, 0)
		chunksAre(t, true, first, place(to+1, to+1, 1, 0, 0))
		chunksAre(t, true, first, place(to+1, to+2, 1, 0, 0))
		chunksAre(t, true, first, place(to+2, to+2, 1, 0, 0))
		chunksAre(t, false, first, place(to, to, 1, 0, 0))
		chunksAre(t, false, first, place(to, to+1, 1, 0, 0))
		chunksAre(t, false, first, place(to-1, to+1, 1, 0, 0))
		chunksAre(t, false, first, place(to-3, to+1, 1, 0, 0))
		chunksAre(t, false, first, place(to-9, to-8, 1, 0, 0))
		chunksAre(t, false, first, first)
	}
	chunksAre(t, true, place(0, 0, 1, 0, 0), place(1, 1, 1, 0, 0), place(2, 2, 1, 0, 0), place(3, 9, 1, 0, 0))
	chunksAre(t, false, place(0, 0, 1, 0, 0), place(1, 1, 1, 0, 0), place(2, 2, 1, 0, 0), place(2, 9, 1, 0, 0))
	chunksAre(t, false, place(0, 0, 1, 0, 0), place(1, 1, 1, 0, 0), place(1, 2, 1, 0, 0), place(3, 9, 1, 0, 0))
	chunksAre(t, false, place(5, 9, 1, 0, 0), place(1, 2, 1, 0, 0), place(10, 11, 1, 0, 0))
}

// Nothing else is asked of chunks: their data may lie anywhere, and the times of one entry say nothing of another one's.
func TestWhatChunksMayBe(t *testing.T) {
	chunksAre(t, true, place(0, 100, 1, 50, 9), place(101, 101, 120, 0, 100), place(200, 300, 2, 50, 9))
	chunksAre(t, true, place(0, 0, 120, 1<<31-1, 1<<31-1))
	l := entries(entry(set("a", "1"), place(5, 9, 1, 0, 0)), entry(set("a", "2"), place(5, 9, 1, 0, 0)), entry(set("a", "3"), place(1, 2, 1, 0, 0)), entry(set("a", "4"), place(-1, 7, 1, 0, 0)))
	indexOf(t, l...)
}
