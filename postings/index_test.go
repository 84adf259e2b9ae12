package postings_test

import (
	"slices"
	"strconv"
	"strings"
	"testing"

	"barograph/api"
	"barograph/postings"
)

// The chapter's second example.
func TestIndexOfTheExample(t *testing.T) {
	x := postings.New()
	adds(t, x, set("a", "1"), 0)
	adds(t, x, set("a", "2", "b", "x"), 1)
	adds(t, x, set("a", "1"), 0)
	ofIs(t, x, "a", "1", 0)
	ofIs(t, x, "b", "", 0)
	valuesAre(t, x, "a", "1", "2")
	selects(t, x, list(re("a", ".*"), ne("b", "x")), 0)
}

// New returns an index without series.
func TestIndexWithoutSeries(t *testing.T) {
	x := postings.New()
	lenIs(t, x, 0)
	for _, n := range ints(-1, 0, 1, least, greatest) {
		hasNone(t, x, n)
	}
	findsNone(t, x, nil)
	findsNone(t, x, set("a", "1"))
	namesAre(t, x)
	valuesAre(t, x, "a")
	valuesAre(t, x, "")
	ofIs(t, x, "a", "1")
	ofIs(t, x, "a", "")
	ofIs(t, x, "", "")
	selects(t, x, nil)
	selects(t, x, list(eq("a", "")))
	selects(t, x, list(eq("a", "1"), ne("a", "1"), re("a", ".*"), nr("a", "x")))
	selectFails(t, x, list(re("a", "(")), api.ErrRegexForm)
	selectFails(t, x, times(33, eq("a", "1")), api.ErrArg)
	isAsTheChapter(t, x, &plain{})
}

// A series that is there already has the number that it has; others are numbered in the order in which they come.
func TestAdd(t *testing.T) {
	long := strings.Repeat("n", 1024)
	sets := [][]api.Label{
		set("b", "1"), set("a", "9"), set("a", "1"), nil, set("a", "1", "b", "1"), set("a", "1", "b", "2"), set("__name__", "up"),
		set("a", "\x00"), set("a", "\xff\xfe"), set("a", " "), set("a", "11"), set("ab", "1"), set("A", "1"), set("_", "1", "a", "1"),
		set(long, long), set(long, "x"), set("a", long), set("a", "1", "b", "1", "c", "1"), numbered(64), numbered(63), set("a", "é"), set("a", "e"),
	}
	x, p := postings.New(), &plain{}
	for n, l := range sets {
		lenIs(t, x, n)
		findsNone(t, x, l)
		adds(t, x, l, n)
		lenIs(t, x, n+1)
		p.add(l)
		isAsTheChapter(t, x, p)
		for m, l := range slices.Backward(sets[:n+1]) {
			adds(t, x, l, m)
		}
		lenIs(t, x, n+1)
		isAsTheChapter(t, x, p)
	}
	ofIs(t, x, "a", "1", 2, 4, 5, 13, 17)
	ofIs(t, x, "n063", "v", 18)
	ofIs(t, x, "n062", "v", 18, 19)
}

// The labels of a set may be cut at another place and have the same bytes in a row: that is another set.
func TestSetsOfTheSameBytes(t *testing.T) {
	sets := [][]api.Label{
		set("a", "bc"), set("ab", "c"), set("a", "b", "c", "d"), set("a", "bcd"), set("a", "b\x01\x00c\x01\x00d"), set("a", "b\x00\x01c\x00\x01d"),
		set("a", "b,c=d"), set("a", `b", c="d`), set("a", "b\x00c\x00d"), set("a", "b\xffc\xffd"), set("a", "b=c"),
	}
	x, p := indexOf(t, sets...)
	lenIs(t, x, len(sets))
	isAsTheChapter(t, x, p)
}

// What is no set is not added: the error is that of labels.Check, and nothing is found of it.
func TestAddOfWhatIsNoSet(t *testing.T) {
	kept := [][]api.Label{set("a", "1"), set("b", "2"), nil, set("a", "1", "b", "2")}
	for errno, lists := range badSets() {
		for _, l := range lists {
			x, p := indexOf(t)
			for range 2 {
				addFails(t, x, l, errno)
				findsNone(t, x, l)
				isAsTheChapter(t, x, p)
			}
			x, p = indexOf(t, kept...)
			addFails(t, x, l, errno)
			findsNone(t, x, l)
			isAsTheChapter(t, x, p)
			adds(t, x, set("z", "1"), 4)
			addFails(t, x, l, errno)
			p.add(set("z", "1"))
			isAsTheChapter(t, x, p)
		}
	}
}

// Labels returns ErrArg if there is no series with that number.
func TestLabels(t *testing.T) {
	x, _ := indexOf(t, set("b", "2"), set("a", "1", "c", "3"), nil)
	for range 2 {
		has(t, x, 0, set("b", "2"))
		has(t, x, 1, set("a", "1", "c", "3"))
		has(t, x, 2, nil)
	}
	for _, n := range ints(-1, 3, 4, -2, -3, -4, 1<<32, 1<<32+1, -1<<32, 1<<63-2, least, least+1, greatest) {
		hasNone(t, x, n)
	}
	lenIs(t, x, 3)
}

// Find returns the number of the series with exactly these labels.
func TestFind(t *testing.T) {
	x, _ := indexOf(t, set("a", "1", "b", "2"), set("a", "1"), set("a", "1", "b", "2", "c", "3"))
	finds(t, x, set("a", "1", "b", "2"), 0)
	finds(t, x, set("a", "1"), 1)
	finds(t, x, set("a", "1", "b", "2", "c", "3"), 2)
	findsNone(t, x, nil)
	findsNone(t, x, set())
	for _, l := range [][]api.Label{
		set("a", "1", "b", "2", "c", "3", "d", "4"), set("a", "1", "b", "2", "d", "3"), set("a", "1", "c", "3"), set("b", "2"), set("b", "2", "c", "3"),
		set("a", "2"), set("a", "1", "b", "1"), set("a", "1", "b", "22"), set("a", "1", "b", "2", "c", "33"), set("aa", "1"), set("A", "1"), set("a", "1 "), set("1", "a"),
		set("b", "2", "a", "1"), set("a", "1", "b", "2", "b", "2"), set("a", "1", "a", "1"), set("a", "1", "c", ""), set("a", "1", "b", ""), set("a", ""), set("", "1"),
	} {
		findsNone(t, x, l)
	}
	adds(t, x, nil, 3)
	finds(t, x, nil, 3)
	finds(t, x, set(), 3)
	lenIs(t, x, 4)
}

// Of every series with one label more, one less, or another value, Find knows only those that are there.
func TestFindOfNearSets(t *testing.T) {
	var sets [][]api.Label
	for n := range 64 {
		var l []api.Label
		for bit, name := range []string{"a", "b", "c"} {
			if value := n >> (2 * bit) & 3; value != 0 {
				l = append(l, api.Label{Name: name, Value: strconv.Itoa(value)})
			}
		}
		sets = append(sets, l)
	}
	x, p := postings.New(), &plain{}
	for i := range sets {
		l := sets[i*27%64]
		adds(t, x, l, i)
		p.add(l)
		for _, l := range sets {
			if n, ok := p.find(l); ok {
				finds(t, x, l, n)
			} else {
				findsNone(t, x, l)
			}
		}
	}
	isAsTheChapter(t, x, p)
}

// Of returns the series whose label has this value; for the empty one, those without the label.
func TestOf(t *testing.T) {
	x, _ := indexOf(t, set("a", "1"), set("a", "2", "b", "x"), nil, set("b", "x"), set("a", "1", "b", "y"), set("ab", "1"))
	ofIs(t, x, "a", "1", 0, 4)
	ofIs(t, x, "a", "2", 1)
	ofIs(t, x, "b", "x", 1, 3)
	ofIs(t, x, "b", "y", 4)
	ofIs(t, x, "ab", "1", 5)
	ofIs(t, x, "a", "", 2, 3, 5)
	ofIs(t, x, "b", "", 0, 2, 5)
	ofIs(t, x, "ab", "", 0, 1, 2, 3, 4)
	for _, value := range []string{"3", "x", "11", "1 ", "\x00", "a", strings.Repeat("1", 2000)} {
		ofIs(t, x, "a", value)
	}
	for _, name := range []string{"c", "A", "", "1", "a b", "x", "\xff", strings.Repeat("a", 2000)} {
		ofIs(t, x, name, "1")
		ofIs(t, x, name, "x")
		ofIs(t, x, name, "", 0, 1, 2, 3, 4, 5)
	}
	y, _ := indexOf(t, set("a", "1"), set("a", "2"))
	ofIs(t, y, "a", "")
	ofIs(t, y, "b", "", 0, 1)
}

// Names returns all label names in increasing order of their bytes, without duplicates.
func TestNames(t *testing.T) {
	x := postings.New()
	adds(t, x, nil, 0)
	namesAre(t, x)
	adds(t, x, set("b", "1"), 1)
	namesAre(t, x, "b")
	adds(t, x, set("a", "1", "b", "2", "c", "1"), 2)
	namesAre(t, x, "a", "b", "c")
	adds(t, x, set("B", "1", "_", "1", "aa", "1", "b", "1"), 3)
	adds(t, x, set("Z", "1", "__name__", "up", "a0", "1", "a9", "1", "b", "1", "z", "1"), 4)
	namesAre(t, x, "B", "Z", "_", "__name__", "a", "a0", "a9", "aa", "b", "c", "z")
	for _, name := range []string{"1", "up", "", "d", "A"} {
		valuesAre(t, x, name)
	}
}

// Values returns all values of a label in increasing order of their bytes, without duplicates.
func TestValues(t *testing.T) {
	var sets [][]api.Label
	for i, value := range []string{"b", "\xff", "a", "é", "\x00", "10", "9", "B", "aa", " ", "\x7f", "\x80", "a\x00", "a\xff"} {
		sets = append(sets, set("n", value), set("m", "x", "n", value), set("k"+strconv.Itoa(i), "y", "o", "only"))
	}
	x, _ := indexOf(t, sets...)
	valuesAre(t, x, "n", "\x00", " ", "10", "9", "B", "a", "a\x00", "aa", "a\xff", "b", "\x7f", "\x80", "é", "\xff")
	valuesAre(t, x, "m", "x")
	valuesAre(t, x, "o", "only")
	valuesAre(t, x, "k3", "y")
	valuesAre(t, x, "k")
	valuesAre(t, x, "nn")
	valuesAre(t, x, "x")
	valuesAre(t, x, "")
	adds(t, x, set("n", "8"), len(sets))
	valuesAre(t, x, "n", "\x00", " ", "10", "8", "9", "B", "a", "a\x00", "aa", "a\xff", "b", "\x7f", "\x80", "é", "\xff")
}

// As many series as a database has, each with as many labels as a set has.
func TestManySeries(t *testing.T) {
	x := postings.New()
	last := func(n int) []api.Label {
		l := numbered(64)
		for i := range l {
			l[i].Value = strconv.Itoa(n % (i + 2))
		}
		l[63].Value = strconv.Itoa(n)
		return l
	}
	for n := range 4096 {
		if got, errno := x.Add(last(n)); got != n || errno != api.OK {
			t.Fatalf("Add of series %d = %d, %v", n, got, errno)
		}
	}
	lenIs(t, x, 4096)
	for n := range 4096 {
		adds(t, x, last(n), n)
		finds(t, x, last(n), n)
		ofIs(t, x, "n063", strconv.Itoa(n), n)
	}
	lenIs(t, x, 4096)
	if all := x.Of("n064", ""); len(all) != 4096 || all[0] != 0 || all[4095] != 4095 {
		t.Errorf("%d series are without a label", len(all))
	}
	if half := x.Of("n000", "1"); len(half) != 2048 || half[0] != 1 || half[2047] != 4095 {
		t.Errorf("%d series are odd", len(half))
	}
	if values := x.Values("n063"); len(values) != 4096 || values[0] != "0" || values[4095] != "999" || !slices.IsSorted(values) {
		t.Errorf("%d values", len(values))
	}
	var l []api.Matcher
	for range 8 {
		l = append(l, re("n063", ".*"), nr("n063", ".*9"), ne("n000", "0"), eq("n001", "2"))
	}
	if got, errno := x.Select(l); errno != api.OK || !slices.Equal(got[:4], ints(5, 11, 17, 23)) {
		t.Errorf("Select = %v, %v", got, errno)
	}
}

// Indexes are independent of each other.
func TestTwoIndexes(t *testing.T) {
	x, p := indexOf(t, set("a", "1"), set("b", "2"))
	y, q := indexOf(t, set("b", "2"))
	adds(t, y, set("c", "3"), 1)
	q.add(set("c", "3"))
	isAsTheChapter(t, x, p)
	isAsTheChapter(t, y, q)
	findsNone(t, x, set("c", "3"))
	findsNone(t, y, set("a", "1"))
	isAsTheChapter(t, postings.New(), &plain{})
}
