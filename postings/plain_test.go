package postings_test

import (
	"maps"
	"slices"
	"strconv"
	"strings"
	"testing"

	"barograph/api"
	"barograph/labels"
	"barograph/match"
	"barograph/postings"
)

// This file has what the chapter says of the calls, word for word and without haste; the other tests hold the package against it.

// The calls are those that the chapter lists.
var (
	_ func(...[]int) []int                                    = postings.And
	_ func(...[]int) []int                                    = postings.Or
	_ func(a, b []int) []int                                  = postings.Not
	_ func() *postings.Index                                  = postings.New
	_ func(*postings.Index, []api.Label) (int, api.Errno)     = (*postings.Index).Add
	_ func(*postings.Index) int                               = (*postings.Index).Len
	_ func(*postings.Index, int) ([]api.Label, api.Errno)     = (*postings.Index).Labels
	_ func(*postings.Index, []api.Label) (int, bool)          = (*postings.Index).Find
	_ func(x *postings.Index, name, value string) []int       = (*postings.Index).Of
	_ func(*postings.Index) []string                          = (*postings.Index).Names
	_ func(*postings.Index, string) []string                  = (*postings.Index).Values
	_ func(*postings.Index, []api.Matcher) ([]int, api.Errno) = (*postings.Index).Select
)

// dice are numbers without a pattern, the same ones at every run.
type dice uint64

func (d *dice) number() uint64 {
	*d = *d*6364136223846793005 + 1442695040888963407
	return uint64(*d)>>33 ^ uint64(*d)<<31
}

func (d *dice) below(n int) int { return int(d.number() >> 3 % uint64(n)) }

func (d *dice) oneOf(all ...string) string { return all[d.below(len(all))] }

// ints are numbers.
func ints(l ...int) []int { return l }

// set has labels of these names and values, in turn.
func set(s ...string) []api.Label {
	var l []api.Label
	for i := 0; i < len(s); i += 2 {
		l = append(l, api.Label{Name: s[i], Value: s[i+1]})
	}
	return l
}

// numbered is a set of so many labels, for at most 1000: n000, n001 and so on.
func numbered(n int) []api.Label {
	var l []api.Label
	for i := range n {
		l = append(l, api.Label{Name: "n" + strconv.Itoa(1000 + i)[1:], Value: "v"})
	}
	return l
}

// Each kind of matcher.
func eq(name, value string) api.Matcher { return api.Matcher{Kind: 1, Name: name, Value: value} }
func ne(name, value string) api.Matcher { return api.Matcher{Kind: 2, Name: name, Value: value} }
func re(name, value string) api.Matcher { return api.Matcher{Kind: 3, Name: name, Value: value} }
func nr(name, value string) api.Matcher { return api.Matcher{Kind: 4, Name: name, Value: value} }

// list is a list of matchers.
func list(l ...api.Matcher) []api.Matcher { return l }

// times is a list that has a matcher so many times.
func times(n int, m api.Matcher) []api.Matcher { return slices.Repeat(list(m), n) }

// badSets are lists that are no sets, each with what Check of labels says of it.
func badSets() map[api.Errno][][]api.Label {
	long := strings.Repeat("x", 1025)
	return map[api.Errno][][]api.Label{
		api.ErrLabelsForm: {
			set("", "x"), set("1a", "x"), set("a b", "x"), set("a:b", "x"), set("\xff", "x"), set(long, "x"),
			set("a", ""), set("a", long), set("a", "1", "b", ""), set("a", "", "b", "1"), set("a", "1", "", "1"),
			set("b", "2", "a", "1"), set("a", "1", "c", "3", "b", "2"),
			set("a", "", "a", "1"), set("a", "1", "a", "1", "1b", "1"),
		},
		api.ErrLabelsTwice: {
			set("a", "1", "a", "1"), set("a", "1", "a", "2"), set("a", "1", "b", "2", "a", "1"), set("b", "1", "b", "1", "a", "1"),
		},
		api.ErrLabelsMany: {numbered(65), numbered(300), slices.Repeat(set("a", "1"), 65), slices.Repeat(set("1", ""), 65)},
	}
}

// badMatchers are matchers that are none, each with what Check of match says of it.
func badMatchers() map[api.Errno][]api.Matcher {
	long := func(s string, n int) string { return strings.Repeat(s, n) }
	return map[api.Errno][]api.Matcher{
		api.ErrMatchForm: {
			{}, {Kind: 0, Name: "a"}, {Kind: 5, Name: "a", Value: "x"}, {Kind: 255, Name: "a"},
			eq("", "x"), ne("1a", "x"), re("a b", "x"), nr("\xff", "x"), eq("a:b", ""), eq(long("n", 1025), ""),
			eq("a", long("v", 1025)), ne("a", long("v", 1025)), re("a", long("v", 1025)), nr("a", long("v", 1025)),
		},
		api.ErrRegexForm: {re("a", "("), nr("a", "("), re("nowhere", "[a"), nr("a", "a**")},
		api.ErrRegexLong: {re("a", long("v", 501)), nr("a", long("v", 501)), re("nowhere", "a{1000}")},
	}
}

// counted has a number of each argument as often as one asks: in how many of the arguments it occurs.
func counted(l [][]int) map[int]int {
	count := map[int]int{}
	for _, numbers := range l {
		its := map[int]bool{}
		for _, n := range numbers {
			its[n] = true
		}
		for n := range its {
			count[n]++
		}
	}
	return count
}

// among are the numbers for which it holds in how many arguments they occur, rising.
func among(count map[int]int, holds func(n, many int) bool) []int {
	var l []int
	for _, n := range slices.Sorted(maps.Keys(count)) {
		if holds(n, count[n]) {
			l = append(l, n)
		}
	}
	return l
}

// andOf is what the chapter says of And.
func andOf(l ...[]int) []int {
	return among(counted(l), func(_, many int) bool { return many == len(l) })
}

// orOf is what the chapter says of Or.
func orOf(l ...[]int) []int {
	return among(counted(l), func(_, many int) bool { return many > 0 })
}

// notOf is what the chapter says of Not.
func notOf(a, b []int) []int {
	return among(counted([][]int{a}), func(n, _ int) bool { return !slices.Contains(b, n) })
}

// plain is what the chapter says of an index: the sets of its series, by their numbers.
type plain struct{ sets [][]api.Label }

func (p *plain) add(l []api.Label) (int, api.Errno) {
	if errno := labels.Check(l); errno != api.OK {
		return 0, errno
	}
	if n, ok := p.find(l); ok {
		return n, api.OK
	}
	p.sets = append(p.sets, slices.Clone(l))
	return len(p.sets) - 1, api.OK
}

func (p *plain) find(l []api.Label) (int, bool) {
	for n, set := range p.sets {
		if slices.Equal(set, l) {
			return n, true
		}
	}
	return 0, false
}

// those are the numbers of the series for whose sets it holds.
func (p *plain) those(holds func(set []api.Label) bool) []int {
	var l []int
	for n, set := range p.sets {
		if holds(set) {
			l = append(l, n)
		}
	}
	return l
}

func (p *plain) of(name, value string) []int {
	return p.those(func(set []api.Label) bool { return labels.Get(set, name) == value })
}

// texts are those that any label of any series tells, rising, without duplicates; an empty one is none.
func (p *plain) texts(tell func(x api.Label) string) []string {
	all := map[string]bool{}
	for _, set := range p.sets {
		for _, x := range set {
			all[tell(x)] = true
		}
	}
	delete(all, "")
	return slices.Sorted(maps.Keys(all))
}

func (p *plain) names() []string {
	return p.texts(func(x api.Label) string { return x.Name })
}

func (p *plain) values(name string) []string {
	return p.texts(func(x api.Label) string {
		if x.Name == name {
			return x.Value
		}
		return ""
	})
}

func (p *plain) selection(l []api.Matcher) ([]int, api.Errno) {
	if len(l) > 32 {
		return nil, api.ErrArg
	}
	for _, m := range l {
		if errno := match.Check(m); errno != api.OK {
			return nil, errno
		}
	}
	return p.those(func(set []api.Label) bool { return match.All(l, set) }), api.OK
}

// indexOf is an index of these series, added in that order, and what the chapter says of it.
func indexOf(t *testing.T, sets ...[]api.Label) (*postings.Index, *plain) {
	t.Helper()
	x, p := postings.New(), &plain{}
	for _, l := range sets {
		want, e := p.add(l)
		if got, errno := x.Add(l); got != want || errno != e {
			t.Fatalf("Add(%s) = %d, %v, want %d, %v", shown(l), got, errno, want, e)
		}
	}
	return x, p
}

func short(s string) string {
	if len(s) > 200 {
		s = s[:200] + ".."
	}
	return s
}

// shown is a list of labels within a message.
func shown(l []api.Label) string { return short(labels.Print(l)) }

// matchersShown is a list of matchers within a message.
func matchersShown(l []api.Matcher) string {
	s := ""
	for _, m := range l {
		s += "{" + strconv.Itoa(int(m.Kind)) + " " + strconv.Quote(short(m.Name)) + " " + strconv.Quote(short(m.Value)) + "}"
	}
	return short(s)
}

// adds asks Add for a number.
func adds(t *testing.T, x *postings.Index, l []api.Label, want int) {
	t.Helper()
	if got, errno := x.Add(l); got != want || errno != api.OK {
		t.Errorf("Add(%s) = %d, %v, want %d", shown(l), got, errno, want)
	}
}

// addFails asks Add for an error, and nothing beside it.
func addFails(t *testing.T, x *postings.Index, l []api.Label, want api.Errno) {
	t.Helper()
	if got, errno := x.Add(l); got != 0 || errno != want {
		t.Errorf("Add(%s) = %d, %v, want 0 and %v", shown(l), got, errno, want)
	}
}

// finds asks Find for a number.
func finds(t *testing.T, x *postings.Index, l []api.Label, want int) {
	t.Helper()
	if got, ok := x.Find(l); got != want || !ok {
		t.Errorf("Find(%s) = %d, %v, want %d", shown(l), got, ok, want)
	}
}

// findsNone asks Find for nothing.
func findsNone(t *testing.T, x *postings.Index, l []api.Label) {
	t.Helper()
	if got, ok := x.Find(l); got != 0 || ok {
		t.Errorf("Find(%s) = %d, %v, want 0, false", shown(l), got, ok)
	}
}

// has asks Labels for a set.
func has(t *testing.T, x *postings.Index, n int, want []api.Label) {
	t.Helper()
	if got, errno := x.Labels(n); errno != api.OK || !slices.Equal(got, want) {
		t.Errorf("Labels(%d) = %s, %v, want %s", n, shown(got), errno, shown(want))
	}
}

// hasNone asks Labels for its error, and nothing beside it.
func hasNone(t *testing.T, x *postings.Index, n int) {
	t.Helper()
	if got, errno := x.Labels(n); errno != api.ErrArg || len(got) != 0 {
		t.Errorf("Labels(%d) = %s, %v, want nothing and errno 1", n, shown(got), errno)
	}
}

// lenIs asks Len for the number of series, and Labels for no more of them.
func lenIs(t *testing.T, x *postings.Index, want int) {
	t.Helper()
	if got := x.Len(); got != want {
		t.Errorf("Len() = %d, want %d", got, want)
	}
	hasNone(t, x, want)
}

// ofIs asks Of for a list.
func ofIs(t *testing.T, x *postings.Index, name, value string, want ...int) {
	t.Helper()
	if got := x.Of(name, value); !slices.Equal(got, want) {
		t.Errorf("Of(%q, %q) = %v, want %v", short(name), short(value), got, want)
	}
}

// valuesAre asks Values for a list.
func valuesAre(t *testing.T, x *postings.Index, name string, want ...string) {
	t.Helper()
	if got := x.Values(name); !slices.Equal(got, want) {
		t.Errorf("Values(%q) = %q, want %q", short(name), got, want)
	}
}

// namesAre asks Names for a list.
func namesAre(t *testing.T, x *postings.Index, want ...string) {
	t.Helper()
	if got := x.Names(); !slices.Equal(got, want) {
		t.Errorf("Names() = %q, want %q", got, want)
	}
}

// selects asks Select for a list.
func selects(t *testing.T, x *postings.Index, l []api.Matcher, want ...int) {
	t.Helper()
	if got, errno := x.Select(l); errno != api.OK || !slices.Equal(got, want) {
		t.Errorf("Select(%s) = %v, %v, want %v", matchersShown(l), got, errno, want)
	}
}

// selectFails asks Select for an error, and nothing beside it.
func selectFails(t *testing.T, x *postings.Index, l []api.Matcher, want api.Errno) {
	t.Helper()
	if got, errno := x.Select(l); errno != want || len(got) != 0 {
		t.Errorf("Select(%s) = %v, %v, want nothing and %v", matchersShown(l), got, errno, want)
	}
}

// selectsAsTheChapter holds Select against what the chapter says of it.
func selectsAsTheChapter(t *testing.T, x *postings.Index, p *plain, l []api.Matcher) api.Errno {
	t.Helper()
	want, e := p.selection(l)
	if e == api.OK {
		selects(t, x, l, want...)
	} else {
		selectFails(t, x, l, e)
	}
	return e
}

// isAsTheChapter holds all that an index tells of its series against what the chapter says of it.
func isAsTheChapter(t *testing.T, x *postings.Index, p *plain) {
	t.Helper()
	lenIs(t, x, len(p.sets))
	selects(t, x, nil, p.those(func([]api.Label) bool { return true })...)
	for n, set := range p.sets {
		has(t, x, n, set)
		finds(t, x, set, n)
	}
	namesAre(t, x, p.names()...)
	for _, name := range append(p.names(), "nowhere") {
		valuesAre(t, x, name, p.values(name)...)
		for _, value := range append(p.values(name), "", "nothing") {
			ofIs(t, x, name, value, p.of(name, value)...)
		}
	}
}
