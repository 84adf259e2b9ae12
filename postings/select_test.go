package postings_test

import (
	"strings"
	"testing"

	"barograph/api"
	"barograph/postings"
)

// some is an index of six series: three with a label a, three with b, one without labels.
func some(t *testing.T) (*postings.Index, *plain) {
	return indexOf(t, set("a", "x"), set("a", "xy", "b", "1"), nil, set("b", "2"), set("a", "z", "b", "1"), set("c", "x"))
}

// Without matchers, Select returns all series.
func TestSelectOfNoMatchers(t *testing.T) {
	x, _ := some(t)
	selects(t, x, nil, 0, 1, 2, 3, 4, 5)
	selects(t, x, list(), 0, 1, 2, 3, 4, 5)
	adds(t, x, set("d", "x"), 6)
	selects(t, x, nil, 0, 1, 2, 3, 4, 5, 6)
}

// One matcher of each kind. A series without the label has the empty value.
func TestSelectOfOneMatcher(t *testing.T) {
	x, _ := some(t)
	selects(t, x, list(eq("a", "x")), 0)
	selects(t, x, list(eq("b", "1")), 1, 4)
	selects(t, x, list(eq("a", "q")))
	selects(t, x, list(eq("a", "1")))
	selects(t, x, list(eq("d", "x")))
	selects(t, x, list(eq("a", "")), 2, 3, 5)
	selects(t, x, list(eq("d", "")), 0, 1, 2, 3, 4, 5)
	selects(t, x, list(ne("a", "x")), 1, 2, 3, 4, 5)
	selects(t, x, list(ne("b", "1")), 0, 2, 3, 5)
	selects(t, x, list(ne("a", "q")), 0, 1, 2, 3, 4, 5)
	selects(t, x, list(ne("d", "x")), 0, 1, 2, 3, 4, 5)
	selects(t, x, list(ne("a", "")), 0, 1, 4)
	selects(t, x, list(ne("d", "")))
	selects(t, x, list(re("a", "x")), 0)
	selects(t, x, list(re("a", "x.*")), 0, 1)
	selects(t, x, list(re("a", "x|z")), 0, 4)
	selects(t, x, list(re("a", ".+")), 0, 1, 4)
	selects(t, x, list(re("a", "y")))
	selects(t, x, list(re("d", "x.*")))
	selects(t, x, list(nr("a", "x.*")), 2, 3, 4, 5)
	selects(t, x, list(nr("a", "x")), 1, 2, 3, 4, 5)
	selects(t, x, list(nr("a", ".+")), 2, 3, 5)
	selects(t, x, list(nr("d", "x.*")), 0, 1, 2, 3, 4, 5)
}

// A value or a pattern that also fits an empty text has the series without that label with it.
func TestSelectOfWhatFitsTheEmptyText(t *testing.T) {
	x, _ := some(t)
	selects(t, x, list(re("a", "")), 2, 3, 5)
	selects(t, x, list(re("a", ".*")), 0, 1, 2, 3, 4, 5)
	selects(t, x, list(re("a", "x?")), 0, 2, 3, 5)
	selects(t, x, list(re("a", "x.*|")), 0, 1, 2, 3, 5)
	selects(t, x, list(re("d", ".*")), 0, 1, 2, 3, 4, 5)
	selects(t, x, list(re("d", "x?")), 0, 1, 2, 3, 4, 5)
	selects(t, x, list(nr("a", "")), 0, 1, 4)
	selects(t, x, list(nr("a", ".*")))
	selects(t, x, list(nr("a", "x?")), 1, 4)
	selects(t, x, list(nr("d", ".*")))
	selects(t, x, list(nr("d", "x?")))
	y, _ := indexOf(t, nil)
	for _, m := range list(eq("a", ""), ne("a", "x"), re("a", "x*"), nr("a", "x+")) {
		selects(t, y, list(m), 0)
	}
	for _, m := range list(eq("a", "x"), ne("a", ""), re("a", "x+"), nr("a", "x*")) {
		selects(t, y, list(m))
	}
}

// Several matchers: a series has to satisfy all of them, those on one name too.
func TestSelectOfSeveralMatchers(t *testing.T) {
	x, _ := some(t)
	selects(t, x, list(eq("b", "1"), eq("a", "z")), 4)
	selects(t, x, list(eq("a", "z"), eq("b", "1")), 4)
	selects(t, x, list(eq("a", "z"), eq("b", "2")))
	selects(t, x, list(eq("a", "x"), eq("a", "z")))
	selects(t, x, list(eq("a", "x"), eq("a", "x")), 0)
	selects(t, x, list(eq("a", "x"), ne("a", "x")))
	selects(t, x, list(ne("a", "x"), ne("a", "z")), 1, 2, 3, 5)
	selects(t, x, list(ne("a", "x"), ne("a", "z"), ne("a", "")), 1)
	selects(t, x, list(re("a", "x.*"), nr("a", ".*y")), 0)
	selects(t, x, list(re("a", ".*"), nr("a", ".+"), eq("b", "2")), 3)
	selects(t, x, list(eq("a", ""), eq("b", "")), 2, 5)
	selects(t, x, list(eq("a", ""), eq("b", ""), eq("c", "")), 2)
	selects(t, x, list(re("a", ".*"), re("b", ".*"), re("c", ".*"), re("d", ".*")), 0, 1, 2, 3, 4, 5)
	selects(t, x, list(ne("b", "2"), nr("a", "z"), re("c", "x?"), ne("d", "x")), 0, 1, 2, 5)
}

// Up to 32 matchers may be asked; of 33, ErrArg comes ahead of the matchers' own errors.
func TestSelectOfManyMatchers(t *testing.T) {
	x, p := some(t)
	for _, n := range ints(1, 2, 31, 32) {
		selects(t, x, times(n, re("a", "x.*")), 0, 1)
		selects(t, x, append(times(n-1, ne("b", "2")), eq("b", "1")), 1, 4)
	}
	for _, n := range ints(33, 34, 64, 65, 255, 256, 257, 300) {
		selectFails(t, x, times(n, re("a", "x.*")), api.ErrArg)
		selectFails(t, x, times(n, re("a", "(")), api.ErrArg)
		selectFails(t, x, times(n, api.Matcher{}), api.ErrArg)
		selectFails(t, x, append(times(n-1, eq("a", "x")), eq("1", "x")), api.ErrArg)
	}
	for errno, l := range badMatchers() {
		for _, m := range l {
			selectFails(t, x, times(32, m), errno)
			selectFails(t, x, times(33, m), api.ErrArg)
			selectFails(t, x, append(times(31, eq("a", "x")), m), errno)
			selectFails(t, x, append(times(32, eq("a", "x")), m), api.ErrArg)
		}
	}
	isAsTheChapter(t, x, p)
}

// Otherwise, Select returns the first error of match.Check, wherever it is, and whether a series is left there or not.
func TestSelectOfWrongMatchers(t *testing.T) {
	x, p := some(t)
	y := postings.New()
	for errno, l := range badMatchers() {
		for _, m := range l {
			for _, x := range []*postings.Index{x, y} {
				selectFails(t, x, list(m), errno)
				selectFails(t, x, list(m, eq("a", "x")), errno)
				selectFails(t, x, list(eq("a", "x"), m), errno)
				selectFails(t, x, list(eq("a", "nothing"), m), errno)
				selectFails(t, x, list(eq("a", "x"), m, ne("a", "x")), errno)
				for other, wrong := range badMatchers() {
					selectFails(t, x, list(m, wrong[0]), errno)
					selectFails(t, x, list(eq("a", ""), wrong[1], m, wrong[2]), other)
				}
			}
		}
	}
	isAsTheChapter(t, x, p)
}

// The longest values and patterns are asked for like others.
func TestSelectOfTheLongest(t *testing.T) {
	long := strings.Repeat("x", 1024)
	x, _ := indexOf(t, set(long, long), set("a", long), set("a", long[:500]), set("a", long[:1023]))
	selects(t, x, list(eq(long, long)), 0)
	selects(t, x, list(ne(long, long)), 1, 2, 3)
	selects(t, x, list(eq("a", long)), 1)
	selects(t, x, list(re("a", long[:500])), 2)
	selects(t, x, list(nr("a", long[:500])), 0, 1, 3)
	selects(t, x, list(re("a", "x+"), ne("a", long[:1023])), 1, 2)
}

// Each kind of matcher, alone and in pairs, on all sets of two names: each series held against match.All by itself.
func TestSelectOfAllSmallMatchers(t *testing.T) {
	var sets [][]api.Label
	for _, a := range []string{"", "x", "y", "xx"} {
		for _, b := range []string{"", "x", "y"} {
			var l []api.Label
			for _, label := range set("a", a, "b", b) {
				if label.Value != "" {
					l = append(l, label)
				}
			}
			sets = append(sets, l)
		}
	}
	var all []api.Matcher
	for _, name := range []string{"a", "b", "c"} {
		for _, value := range []string{"", "x", "x*", ".+", "z"} {
			all = append(all, eq(name, value), ne(name, value), re(name, value), nr(name, value))
		}
	}
	x, p := indexOf(t, sets...)
	for _, m := range all {
		selectsAsTheChapter(t, x, p, list(m))
		for _, m2 := range all {
			selectsAsTheChapter(t, x, p, list(m, m2))
		}
	}
}
