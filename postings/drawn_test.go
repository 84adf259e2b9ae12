package postings_test

import (
	"slices"
	"strings"
	"testing"

	"barograph/api"
	"barograph/match"
	"barograph/postings"
)

// drawnSet is a list of labels, mostly a set.
func drawnSet(x *dice) []api.Label {
	var l []api.Label
	for _, name := range []string{"B", "__name__", "a", "a1", "b", "c"} {
		if x.below(2) == 0 {
			l = append(l, api.Label{Name: name, Value: x.oneOf("x", "x", "y", "xy", "1", "\xff", "\x00", "é", "(")})
		}
	}
	if x.below(6) != 0 || len(l) == 0 {
		return l
	}
	at := x.below(len(l))
	switch x.below(7) {
	case 0:
		l[at].Value = ""
	case 1:
		l[at].Name = x.oneOf("", "1", "a b", "\xff", strings.Repeat("n", 1025))
	case 2:
		l[at].Value = strings.Repeat("v", 1023+x.below(4))
	case 3:
		l = slices.Insert(l, x.below(len(l)+1), l[at])
	case 4:
		slices.Reverse(l)
	case 5:
		l = append(l, numbered(64-len(l)+x.below(3))...)
	case 6:
		l = slices.Delete(l, at, at+1)
	}
	return l
}

// drawnMatcher is a matcher, mostly a right one.
func drawnMatcher(x *dice) api.Matcher {
	m := api.Matcher{Kind: uint8(1 + x.below(4)), Name: x.oneOf("B", "__name__", "a", "a1", "b", "c", "n063", "nowhere")}
	if m.Kind < 3 {
		m.Value = x.oneOf("", "x", "y", "xy", "1", "\xff", "\x00", "é", "(", "v")
	} else {
		m.Value = x.oneOf("", ".*", ".+", "x", "x|y", "x?", "x.*", "[^x]+", "[xy]{1,2}", "y?|1", `\(`, "(?:x|1)*", "é", ".")
	}
	switch x.below(60) {
	case 0:
		m.Kind = uint8(x.below(256))
	case 1:
		m.Name = x.oneOf("", "1", "a b", "\xff")
	case 2:
		m.Value = x.oneOf("(", "[", "a**", "a{1000}", strings.Repeat("v", 501), strings.Repeat("v", 1025))
	}
	return m
}

func drawnMatchers(x *dice) []api.Matcher {
	n := x.below(1 + x.below(7))
	if x.below(20) == 0 {
		n = 31 + x.below(4)
	}
	var l []api.Matcher
	for range n {
		l = append(l, drawnMatcher(x))
	}
	return l
}

// Drawn sets and matchers, against the chapter word for word; each series is held against match.All by itself.
func TestDrawnIndexes(t *testing.T) {
	d := dice(1313)
	told := map[string]int{}
	for range 150 {
		x, p := postings.New(), &plain{}
		for range d.below(60) {
			l := drawnSet(&d)
			there := len(p.sets)
			want, e := p.add(l)
			if e == api.OK {
				adds(t, x, l, want)
				finds(t, x, l, want)
			} else {
				addFails(t, x, l, e)
				findsNone(t, x, l)
			}
			told["Add "+e.Error()]++
			if e == api.OK && there == len(p.sets) {
				told["Add of what is there"]++
			}
		}
		isAsTheChapter(t, x, p)
		for range 60 {
			l := drawnMatchers(&d)
			told["Select "+selectsAsTheChapter(t, x, p, l).Error()]++
			holdsByItself(t, x, l, told)
		}
		for range 20 {
			l := drawnSet(&d)
			if n, ok := p.find(l); ok {
				finds(t, x, l, n)
			} else {
				findsNone(t, x, l)
				told["Find of none"]++
			}
		}
		isAsTheChapter(t, x, p)
	}
	for _, what := range []string{
		"Add errno 0", "Add errno 70", "Add errno 71", "Add errno 72", "Add of what is there", "Find of none",
		"Select errno 0", "Select errno 1", "Select errno 80", "Select errno 81", "Select errno 90", "some series fit", "all fit", "none fits",
	} {
		if told[what] < 30 {
			t.Errorf("%s: only %d times of %v", what, told[what], told)
		}
	}
}

// holdsByItself asks for each series by itself whether it is among those that Select tells if it satisfies all matchers, and only then; and whether each matcher alone tells at least these.
func holdsByItself(t *testing.T, x *postings.Index, l []api.Matcher, told map[string]int) {
	t.Helper()
	got, errno := x.Select(l)
	if errno != api.OK {
		return
	}
	for n := range x.Len() {
		set, _ := x.Labels(n)
		if match.All(l, set) != slices.Contains(got, n) {
			t.Errorf("Select(%s) = %v, and series %d is %s", matchersShown(l), got, n, shown(set))
		}
	}
	all, _ := x.Select(nil)
	for _, m := range l {
		alone, _ := x.Select(list(m))
		all = postings.And(all, alone)
	}
	if !slices.Equal(all, got) {
		t.Errorf("Select(%s) = %v, and of one matcher after the other: %v", matchersShown(l), got, all)
	}
	switch len(got) {
	case 0:
		told["none fits"]++
	case x.Len():
		told["all fit"]++
	default:
		told["some series fit"]++
	}
}

// The same index tells the same at every time, and so does one that was made of the same sets in the same order.
func TestSameIndexTellsTheSame(t *testing.T) {
	d := dice(131)
	var sets [][]api.Label
	for range 200 {
		sets = append(sets, drawnSet(&d))
	}
	x, p := indexOf(t, sets...)
	y, _ := indexOf(t, sets...)
	for range 30 {
		l := drawnMatchers(&d)
		for range 5 {
			selectsAsTheChapter(t, x, p, l)
			selectsAsTheChapter(t, y, p, l)
		}
	}
	for range 5 {
		isAsTheChapter(t, x, p)
		isAsTheChapter(t, y, p)
	}
}
