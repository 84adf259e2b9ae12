package postings_test

import (
	"runtime"
	"slices"
	"strconv"
	"strings"
	"sync"
	"testing"

	"barograph/api"
	"barograph/postings"
)

// roomy is a copy of a list with others behind its end, in the same memory.
func roomy[E any](l []E, behind ...E) []E {
	return append(slices.Clone(l), behind...)[:len(l)]
}

// hasStayed tells whether a roomy list is as it was, and what is behind it too.
func hasStayed[E comparable](l, want []E, behind ...E) bool {
	return slices.Equal(l, want) && slices.Equal(l[len(l):len(l)+len(behind)], behind)
}

// scribble changes a list, and what there is room for behind it.
func scribble[E any](l []E, x E) {
	l = l[:cap(l)]
	for i := range l {
		l[i] = x
	}
}

// What And, Or and Not are given stays as it is, and what lies behind it is neither changed nor read.
func TestListsThatAreHandedInStay(t *testing.T) {
	for _, want := range [][][]int{{nil, nil}, {{1, 2, 3}, {2, 3, 4}}, {{3, 1, 2, 3}, {2, 2, 1}}, {{5}, {5}, {5, 6}}, {{9, 8}, nil, {8}}, {{4, 5}, {5, 6}, {6, 4}}} {
		var l [][]int
		for _, numbers := range want {
			l = append(l, roomy(numbers, 77, 3, 5))
		}
		l = roomy(l, ints(5), ints(78))
		for range 2 {
			and(t, andOf(want...), l...)
			or(t, orOf(want...), l...)
			not(t, notOf(want[0], want[1]), l[0], l[1])
		}
		for i, numbers := range want {
			if !hasStayed(l[i], numbers, 77, 3, 5) {
				t.Errorf("%v has become %v", numbers, l[i][:len(numbers)+3])
			}
		}
		if all := l[:len(l)+2]; len(l) != len(want) || !slices.Equal(all[len(l)], ints(5)) || !slices.Equal(all[len(l)+1], ints(78)) {
			t.Error("the list of lists is changed")
		}
	}
}

// lists are what And, Or and Not tell of some arguments.
func lists(l ...[]int) [][]int {
	return [][]int{postings.And(l...), postings.Or(l...), postings.Not(l[0], l[1]), postings.Or(l[0]), postings.And(l[0])}
}

// What And, Or and Not tell is its owner's: neither another answer nor an argument hangs on it.
func TestListsAreTheirOwners(t *testing.T) {
	for _, want := range [][][]int{{{1, 2, 3}, nil}, {{1, 2, 3}, {1, 2, 3}}, {{1, 2, 3, 4}, {2, 4}}, {{3, 1, 2, 3}, {2, 2, 1}}, {nil, {7}}} {
		l := [][]int{roomy(want[0], 9, 9), roomy(want[1], 9, 9)}
		first, second := lists(l...), lists(l...)
		told := lists(want...)
		for _, answer := range second {
			scribble(answer, -5)
		}
		if !hasStayed(l[0], want[0], 9, 9) || !hasStayed(l[1], want[1], 9, 9) {
			t.Errorf("answers share memory with %v", want)
		}
		scribble(l[0], -6)
		scribble(l[1], -6)
		for i := range first {
			if longer := append(first[i], -7); !slices.Equal(first[i], told[i]) || longer[len(told[i])] != -7 {
				t.Errorf("answer %d of %v shares memory: %v, want %v", i, want, first[i], told[i])
			}
		}
	}
}

// A set that was added may be written over later.
func TestSetsMayBeWrittenOver(t *testing.T) {
	x, p := postings.New(), &plain{}
	memory := make([]api.Label, 0, 8)
	for n := range 40 {
		l := append(memory, set("a", strconv.Itoa(n%7), "b"+strconv.Itoa(n), "y")...)
		l = append(l, set("c", "behind")...)[:2]
		want, _ := p.add(l)
		adds(t, x, l, want)
		finds(t, x, l, want)
		if !hasStayed(l, p.sets[n], set("c", "behind")...) {
			t.Errorf("series %d has become %s", n, shown(l))
		}
		scribble(l, api.Label{Name: "scribbled", Value: "x"})
		isAsTheChapter(t, x, p)
	}
	findsNone(t, x, set("scribbled", "x"))
}

// Lists that are no sets, and matchers, stay as they are too.
func TestWrongListsAndMatchersStay(t *testing.T) {
	x, _ := indexOf(t, set("a", "1"), set("a", "2"))
	for _, lists := range badSets() {
		for _, want := range lists {
			l := roomy(want, set("a", "1")...)
			x.Add(l)
			x.Find(l)
			if !hasStayed(l, want, set("a", "1")...) {
				t.Errorf("%s has become %s", shown(want), shown(l[:len(l)+1]))
			}
		}
	}
	for _, want := range [][]api.Matcher{nil, list(eq("a", "1")), list(nr("a", "2"), re("a", ".*"), ne("b", "x")), list(re("a", "("), eq("a", "1")), times(32, eq("a", "1")), times(33, re("a", "("))} {
		l := roomy(want, eq("a", "nothing"), re("a", "("))
		first, e := x.Select(l)
		if !hasStayed(l, want, eq("a", "nothing"), re("a", "(")) {
			t.Errorf("%s has become %s", matchersShown(want), matchersShown(l))
		}
		scribble(l, eq("scribbled", "x"))
		if again, errno := x.Select(want); errno != e || !slices.Equal(first, again) {
			t.Errorf("Select(%s) = %v, %v, and then %v, %v", matchersShown(want), first, e, again, errno)
		}
	}
}

// everything is all that an index tells in lists of numbers, and in lists of texts.
func everything(x *postings.Index) (numbers [][]int, texts [][]string) {
	texts = append(texts, x.Names())
	for _, name := range append(x.Names(), "nowhere") {
		values := x.Values(name)
		texts = append(texts, values)
		numbers = append(numbers, x.Of(name, ""))
		for _, value := range values {
			numbers = append(numbers, x.Of(name, value))
			for _, m := range list(eq(name, value), ne(name, value), re(name, ".*"), nr(name, "")) {
				fit, _ := x.Select(list(m))
				numbers = append(numbers, fit)
			}
		}
	}
	all, _ := x.Select(nil)
	return append(numbers, all), texts
}

// What comes out of an index is its owner's: writing into it, and behind it, changes nothing of the index and no other answer.
func TestAnswersOfAnIndexAreTheirOwners(t *testing.T) {
	x, p := some(t)
	for n := range 20 {
		want, wantTexts := everything(x)
		want, wantTexts = deep(want), deep(wantTexts)
		first, firstTexts := everything(x)
		numbers, texts := everything(x)
		var sets [][]api.Label
		for n := range x.Len() {
			l, _ := x.Labels(n)
			other, _ := x.Labels(n)
			scribble(other, api.Label{Name: "scribbled", Value: "x"})
			if !slices.Equal(l, p.sets[n]) {
				t.Errorf("Labels(%d) shares memory: %s", n, shown(l))
			}
			sets = append(sets, l)
		}
		for i := range numbers {
			scribble(append(numbers[i], 99), 99)
			scribble(numbers[i], 99)
		}
		for i := range texts {
			scribble(append(texts[i], "scribbled"), "scribbled")
			scribble(texts[i], "scribbled")
		}
		isAsTheChapter(t, x, p)
		l := set("a", strconv.Itoa(n%3), "b", "1", "n"+strconv.Itoa(n), "x")
		p.add(l)
		adds(t, x, l, n+6)
		isAsTheChapter(t, x, p)
		for i := range sets {
			if !slices.Equal(sets[i], p.sets[i]) {
				t.Errorf("Labels(%d) has become %s", i, shown(sets[i]))
			}
		}
		if !slices.EqualFunc(first, want, slices.Equal[[]int]) || !slices.EqualFunc(firstTexts, wantTexts, slices.Equal[[]string]) {
			t.Error("an answer hangs on another one, or on what is added later")
		}
	}
}

// deep is a copy of lists, with copies of each of them.
func deep[E any](l [][]E) [][]E {
	all := make([][]E, len(l))
	for i, one := range l {
		all[i] = slices.Clone(one)
	}
	return all
}

// A text that was handed in is not kept: it may be a piece of a long one.
func TestTextsAreNotKept(t *testing.T) {
	inUse := func() uint64 {
		var m runtime.MemStats
		runtime.GC()
		runtime.ReadMemStats(&m)
		return m.HeapAlloc
	}
	x, before := postings.New(), inUse()
	for n := range 128 {
		long := strings.Repeat("n", 1<<20) + strconv.Itoa(n)
		name, value := long[len(long)-9:], long[len(long)-4:]
		l := set(name, value)
		adds(t, x, l, n)
		finds(t, x, l, n)
		x.Select(list(eq(name, value), re(name, value)))
		x.Of(name, value)
	}
	if after := inUse(); after > before+32<<20 {
		t.Errorf("128 small series hold on to %d bytes", after-before)
	}
	lenIs(t, x, 128)
}

// Indexes may be used at the same time, each by itself, or one that is only asked.
func TestCallsAtTheSameTime(t *testing.T) {
	shared, p := some(t)
	var wait sync.WaitGroup
	for i := range 8 {
		wait.Go(func() {
			x := postings.New()
			for n := range 100 {
				adds(t, x, set("a", strconv.Itoa(i), "n", strconv.Itoa(n)), n)
				ofIs(t, x, "a", strconv.Itoa(i+1))
				ofIs(t, x, "n", strconv.Itoa(n), n)
				selects(t, shared, list(re("a", "x.*"), ne("b", "1")), 0)
				isAsTheChapter(t, shared, p)
			}
			lenIs(t, x, 100)
		})
	}
	wait.Wait()
}
