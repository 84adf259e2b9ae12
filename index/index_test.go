package index_test

import (
	"slices"
	"strconv"
	"strings"
	"testing"

	"barograph/api"
	"barograph/index"
)

// An index of no entries tells of nothing.
func TestIndexWithoutEntries(t *testing.T) {
	x := indexOf(t)
	for _, n := range ints(-1, 0, 1, least, greatest) {
		hasNone(t, x, n)
	}
	symbolsAre(t, x)
	ofIs(t, x, "a", "1")
	ofIs(t, x, "a", "")
	ofIs(t, x, "", "")
	selects(t, x, nil)
	selects(t, x, list(eq("a", "")))
	selects(t, x, list(eq("a", "1"), ne("a", "1"), re("a", ".*"), nr("a", "x")))
	selectFails(t, x, list(re("a", "(")), api.ErrRegexForm)
	selectFails(t, x, times(33, eq("a", "1")), api.ErrArg)
}

// Len returns the number of entries, whatever labels and chunks they have.
func TestLen(t *testing.T) {
	var l []api.Entry
	for n := range 20 {
		lenIs(t, indexOf(t, l...), n)
		e := entry(set("a", strconv.Itoa(10+n), "b", "x")[:2*min(n, 1)])
		for i := range n % 4 {
			e.Chunks = append(e.Chunks, place(int64(i), int64(i), 1, 0, 0))
		}
		l = append(l, e)
	}
}

// Entry returns the entry with that number, with its labels and its chunks in their order, and ErrArg if there is none.
func TestEntry(t *testing.T) {
	chunks := []api.Place{place(-1<<53, -5, 1, 2, 3), place(-4, -4, 120, 1<<31-1, 0), place(0, 7, 60, 1, 1<<31-1), place(100, 1<<53, 2, 3, 4)}
	l := entries(entry(nil, chunks...), entry(set("a", "1")), entry(set("a", "1", "b", "2", "c", "3"), chunks[2]), entry(set("b", "\x00\xff"), chunks[1:]...))
	x := indexOf(t, l...)
	for range 2 {
		for n, e := range slices.Backward(l) {
			has(t, x, n, e)
		}
	}
	for _, n := range ints(-1, 4, 5, -2, -3, -4, -5, 1<<31, 1<<32, 1<<32+1, -1<<32, 1<<63-2, least, least+1, greatest) {
		hasNone(t, x, n)
	}
	y := indexOf(t, l[0])
	has(t, y, 0, l[0])
	for _, n := range ints(-1, 1, least, greatest) {
		hasNone(t, y, n)
	}
	lenIs(t, x, 4)
}

// Symbols returns all names and values, in increasing order of their bytes, each once.
func TestSymbols(t *testing.T) {
	symbolsAre(t, indexOf(t, entry(nil)))
	symbolsAre(t, indexOf(t, entry(nil, place(1, 2, 3, 4, 5))))
	symbolsAre(t, indexOf(t, ofSets(set("b", "c", "d", "a"))...), "a", "b", "c", "d")
	symbolsAre(t, indexOf(t, ofSets(set("a", "a"))...), "a")
	symbolsAre(t, indexOf(t, ofSets(set("a", "b"), set("a", "b", "b", "a"), set("a", "c"))...), "a", "b", "c")
	symbolsAre(t, indexOf(t, ofSets(set("Z", "10"), set("Z", "9"), set("_", "\xff"), set("z", "é"))...), "10", "9", "Z", "_", "z", "é", "\xff")
}

// Of returns the entries whose label has this value; for the empty one, those without the label.
func TestOf(t *testing.T) {
	x := indexOf(t, ofSets(nil, set("a", "1"), set("a", "1", "b", "y"), set("a", "2", "b", "x"), set("ab", "1"), set("b", "x"))...)
	ofIs(t, x, "a", "1", 1, 2)
	ofIs(t, x, "a", "2", 3)
	ofIs(t, x, "b", "x", 3, 5)
	ofIs(t, x, "b", "y", 2)
	ofIs(t, x, "ab", "1", 4)
	ofIs(t, x, "a", "", 0, 4, 5)
	ofIs(t, x, "b", "", 0, 1, 4)
	ofIs(t, x, "ab", "", 0, 1, 2, 3, 5)
	for _, value := range []string{"0", "3", "x", "11", "1 ", "\x00", "\xff", "a", strings.Repeat("1", 2000)} {
		ofIs(t, x, "a", value)
	}
	for _, name := range []string{"c", "A", "", "1", "a b", "a\x00", "aa", "abc", "x", "\xff", strings.Repeat("a", 2000)} {
		ofIs(t, x, name, "1")
		ofIs(t, x, name, "x")
		ofIs(t, x, name, "", 0, 1, 2, 3, 4, 5)
	}
	y := indexOf(t, ofSets(set("a", "1"), set("a", "2"))...)
	ofIs(t, y, "a", "")
	ofIs(t, y, "b", "", 0, 1)
	ofIs(t, indexOf(t, entry(nil)), "a", "", 0)
	ofIs(t, indexOf(t, entry(nil)), "a", "1")
}

// fitting is an index of six entries: three with a label a, three with b, one without labels.
func fitting(t *testing.T) *index.Index {
	return indexOf(t, ofSets(nil, set("a", "x"), set("a", "xy", "b", "1"), set("a", "z", "b", "1"), set("b", "2"), set("c", "x"))...)
}

// Without matchers, Select returns all entries.
func TestSelectOfNoMatchers(t *testing.T) {
	x := fitting(t)
	selects(t, x, nil, 0, 1, 2, 3, 4, 5)
	selects(t, x, list(), 0, 1, 2, 3, 4, 5)
}

// One matcher of each kind. An entry without the label has the empty value.
func TestSelectOfOneMatcher(t *testing.T) {
	x := fitting(t)
	selects(t, x, list(eq("a", "x")), 1)
	selects(t, x, list(eq("b", "1")), 2, 3)
	selects(t, x, list(eq("a", "q")))
	selects(t, x, list(eq("a", "1")))
	selects(t, x, list(eq("d", "x")))
	selects(t, x, list(eq("a", "")), 0, 4, 5)
	selects(t, x, list(eq("d", "")), 0, 1, 2, 3, 4, 5)
	selects(t, x, list(ne("a", "x")), 0, 2, 3, 4, 5)
	selects(t, x, list(ne("b", "1")), 0, 1, 4, 5)
	selects(t, x, list(ne("a", "q")), 0, 1, 2, 3, 4, 5)
	selects(t, x, list(ne("d", "x")), 0, 1, 2, 3, 4, 5)
	selects(t, x, list(ne("a", "")), 1, 2, 3)
	selects(t, x, list(ne("d", "")))
	selects(t, x, list(re("a", "x")), 1)
	selects(t, x, list(re("a", "x.*")), 1, 2)
	selects(t, x, list(re("a", "x|z")), 1, 3)
	selects(t, x, list(re("a", ".+")), 1, 2, 3)
	selects(t, x, list(re("a", "y")))
	selects(t, x, list(re("d", "x.*")))
	selects(t, x, list(nr("a", "x.*")), 0, 3, 4, 5)
	selects(t, x, list(nr("a", "x")), 0, 2, 3, 4, 5)
	selects(t, x, list(nr("a", ".+")), 0, 4, 5)
	selects(t, x, list(nr("d", "x.*")), 0, 1, 2, 3, 4, 5)
}

// A value or a pattern that also fits an empty text has the entries without that label with it.
func TestSelectOfWhatFitsTheEmptyText(t *testing.T) {
	x := fitting(t)
	selects(t, x, list(re("a", "")), 0, 4, 5)
	selects(t, x, list(re("a", ".*")), 0, 1, 2, 3, 4, 5)
	selects(t, x, list(re("a", "x?")), 0, 1, 4, 5)
	selects(t, x, list(re("a", "x.*|")), 0, 1, 2, 4, 5)
	selects(t, x, list(re("d", ".*")), 0, 1, 2, 3, 4, 5)
	selects(t, x, list(re("d", "x?")), 0, 1, 2, 3, 4, 5)
	selects(t, x, list(nr("a", "")), 1, 2, 3)
	selects(t, x, list(nr("a", ".*")))
	selects(t, x, list(nr("a", "x?")), 2, 3)
	selects(t, x, list(nr("d", ".*")))
	selects(t, x, list(nr("d", "x?")))
	y := indexOf(t, entry(nil))
	for _, m := range list(eq("a", ""), ne("a", "x"), re("a", "x*"), nr("a", "x+")) {
		selects(t, y, list(m), 0)
	}
	for _, m := range list(eq("a", "x"), ne("a", ""), re("a", "x+"), nr("a", "x*")) {
		selects(t, y, list(m))
	}
}

// Several matchers: an entry has to satisfy all of them, those on one name too.
func TestSelectOfSeveralMatchers(t *testing.T) {
	x := fitting(t)
	selects(t, x, list(eq("b", "1"), eq("a", "z")), 3)
	selects(t, x, list(eq("a", "z"), eq("b", "1")), 3)
	selects(t, x, list(eq("a", "z"), eq("b", "2")))
	selects(t, x, list(eq("a", "x"), eq("a", "z")))
	selects(t, x, list(eq("a", "x"), eq("a", "x")), 1)
	selects(t, x, list(eq("a", "x"), ne("a", "x")))
	selects(t, x, list(ne("a", "x"), ne("a", "z")), 0, 2, 4, 5)
	selects(t, x, list(ne("a", "x"), ne("a", "z"), ne("a", "")), 2)
	selects(t, x, list(re("a", "x.*"), nr("a", ".*y")), 1)
	selects(t, x, list(re("a", ".*"), nr("a", ".+"), eq("b", "2")), 4)
	selects(t, x, list(eq("a", ""), eq("b", "")), 0, 5)
	selects(t, x, list(eq("a", ""), eq("b", ""), eq("c", "")), 0)
	selects(t, x, list(re("a", ".*"), re("b", ".*"), re("c", ".*"), re("d", ".*")), 0, 1, 2, 3, 4, 5)
	selects(t, x, list(ne("b", "2"), nr("a", "z"), re("c", "x?"), ne("d", "x")), 0, 1, 2, 5)
}

// badMatchers are matchers that are none, each with what Check of match says of it.
func badMatchers() map[api.Errno][]api.Matcher {
	long := func(s string, n int) string { return strings.Repeat(s, n) }
	return map[api.Errno][]api.Matcher{
		api.ErrMatchForm: {
			{}, {Kind: 0, Name: "a"}, {Kind: 5, Name: "a", Value: "x"}, {Kind: 255, Name: "a"},
			eq("", "x"), ne("1a", "x"), re("a b", "x"), nr("\xff", "x"), eq("a:b", ""), eq(long("n", 1025), ""),
			eq("a", long("v", 1025)), ne("a", long("v", 1025)), re("a", long("v", 1025)), nr("a", long("v", 1025)),
		},
		api.ErrRegexForm: {re("a", "("), nr("a", "("), re("nowhere", "[a"), nr("a", "a**")},
		api.ErrRegexLong: {re("a", long("v", 501)), nr("a", long("v", 501)), re("nowhere", "a{1000}")},
	}
}

// Up to 32 matchers may be asked; of 33, ErrArg comes ahead of the matchers' own errors.
func TestSelectOfManyMatchers(t *testing.T) {
	x := fitting(t)
	for _, n := range ints(1, 2, 31, 32) {
		selects(t, x, times(n, re("a", "x.*")), 1, 2)
		selects(t, x, append(times(n-1, ne("b", "2")), eq("b", "1")), 2, 3)
	}
	for _, n := range ints(33, 34, 64, 65, 255, 256, 257, 300) {
		selectFails(t, x, times(n, re("a", "x.*")), api.ErrArg)
		selectFails(t, x, times(n, re("a", "(")), api.ErrArg)
		selectFails(t, x, times(n, api.Matcher{}), api.ErrArg)
		selectFails(t, x, append(times(n-1, eq("a", "x")), eq("1", "x")), api.ErrArg)
	}
	for errno, l := range badMatchers() {
		for _, m := range l {
			selectFails(t, x, times(32, m), errno)
			selectFails(t, x, times(33, m), api.ErrArg)
			selectFails(t, x, append(times(31, eq("a", "x")), m), errno)
			selectFails(t, x, append(times(32, eq("a", "x")), m), api.ErrArg)
		}
	}
}

// Otherwise, Select returns the first error of match.Check, wherever it is, and whether an entry is left there or not.
func TestSelectOfWrongMatchers(t *testing.T) {
	for errno, l := range badMatchers() {
		for _, m := range l {
			for _, x := range []*index.Index{fitting(t), indexOf(t)} {
				selectFails(t, x, list(m), errno)
				selectFails(t, x, list(m, eq("a", "x")), errno)
				selectFails(t, x, list(eq("a", "x"), m), errno)
				selectFails(t, x, list(eq("a", "nothing"), m), errno)
				selectFails(t, x, list(eq("a", "x"), m, ne("a", "x")), errno)
				for other, wrong := range badMatchers() {
					selectFails(t, x, list(m, wrong[0]), errno)
					selectFails(t, x, list(eq("a", ""), wrong[1], m, wrong[2]), other)
				}
			}
		}
	}
}

// The longest values and patterns are asked for like others.
func TestSelectOfTheLongest(t *testing.T) {
	long := strings.Repeat("x", 1024)
	x := indexOf(t, ofSets(set("a", long[:500]), set("a", long[:1023]), set("a", long), set(long, long))...)
	selects(t, x, list(eq(long, long)), 3)
	selects(t, x, list(ne(long, long)), 0, 1, 2)
	selects(t, x, list(eq("a", long)), 2)
	selects(t, x, list(re("a", long[:500])), 0)
	selects(t, x, list(nr("a", long[:500])), 1, 2, 3)
	selects(t, x, list(re("a", "x+"), ne("a", long[:1023])), 0, 2)
}

// Each kind of matcher, alone and in pairs, on all sets of two names: each entry held against match.All by itself.
func TestSelectOfAllSmallMatchers(t *testing.T) {
	var l []api.Entry
	for _, a := range []string{"", "x", "xx", "y"} {
		for _, b := range []string{"", "x", "y"} {
			set := slices.DeleteFunc(set("a", a, "b", b), func(x api.Label) bool { return x.Value == "" })
			l = append(l, entry(set))
		}
	}
	slices.SortFunc(l, byLabels)
	var all []api.Matcher
	for _, name := range []string{"a", "b", "c"} {
		for _, value := range []string{"", "x", "x*", ".+", "z"} {
			all = append(all, eq(name, value), ne(name, value), re(name, value), nr(name, value))
		}
	}
	x := indexOf(t, l...)
	for _, m := range all {
		selectsAsTheChapter(t, x, l, list(m))
		for _, m2 := range all {
			selectsAsTheChapter(t, x, l, list(m, m2))
		}
	}
}

// As many entries as there may be, each with as many labels as there may be.
func TestGreatestIndex(t *testing.T) {
	var l []api.Entry
	for n := range 4096 {
		set := numbered(64)
		for i := range set[:63] {
			set[63-i].Value = strconv.Itoa(n % (i + 2))
		}
		set[0].Value = strconv.Itoa(10000 + n)
		l = append(l, entry(set, place(int64(n), int64(n), 1, n, n)))
	}
	want, _ := encoded(l)
	encodes(t, l, want)
	x := opens(t, want)
	lenIs(t, x, 4096)
	for n, e := range l {
		has(t, x, n, e)
		ofIs(t, x, "n000", strconv.Itoa(10000+n), n)
	}
	symbolsAre(t, x, symbolsOf(l)...)
	if all := x.Of("n064", ""); len(all) != 4096 || all[0] != 0 || all[4095] != 4095 {
		t.Errorf("%d entries are without a label", len(all))
	}
	if odd := x.Of("n063", "1"); len(odd) != 2048 || odd[0] != 1 || odd[2047] != 4095 {
		t.Errorf("%d entries are odd", len(odd))
	}
	var matchers []api.Matcher
	for range 8 {
		matchers = append(matchers, re("n000", ".*"), nr("n000", ".*9"), ne("n063", "0"), eq("n062", "2"))
	}
	selectsAsTheChapter(t, x, l, matchers[:4])
	if got, errno := x.Select(matchers); errno != api.OK || !slices.Equal(got[:5], ints(5, 11, 17, 23, 35)) {
		t.Errorf("Select = %v, %v", got, errno)
	}
}

// Indexes are independent of each other.
func TestTwoIndexes(t *testing.T) {
	l, k := some(), ofSets(set("a", "x"), set("z", "a"))
	x, y := indexOf(t, l...), indexOf(t, k...)
	z := indexOf(t, l...)
	for range 2 {
		isAsTheChapter(t, x, l)
		isAsTheChapter(t, y, k)
		isAsTheChapter(t, z, l)
	}
}
