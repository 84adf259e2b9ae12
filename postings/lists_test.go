package postings_test

import (
	"math"
	"slices"
	"strconv"
	"testing"

	"barograph/postings"
)

const least, greatest = math.MinInt, math.MaxInt

// and, or and not ask the three calls for a list.
func and(t *testing.T, want []int, l ...[]int) {
	t.Helper()
	listIs(t, "And", l, postings.And(l...), want)
}

func or(t *testing.T, want []int, l ...[]int) {
	t.Helper()
	listIs(t, "Or", l, postings.Or(l...), want)
}

func not(t *testing.T, want, a, b []int) {
	t.Helper()
	listIs(t, "Not", [][]int{a, b}, postings.Not(a, b), want)
}

// listIs asks whether what a call told of these arguments is that list.
func listIs(t *testing.T, call string, l [][]int, got, want []int) {
	t.Helper()
	if !slices.Equal(got, want) {
		t.Errorf("%s(%s) = %s, want %s", call, listsShown(l...), listsShown(got), listsShown(want))
	}
}

// listsShown are lists within a message.
func listsShown(l ...[]int) string {
	var b []byte
	for i, numbers := range l {
		if i > 0 {
			b = append(b, ',')
		}
		for _, n := range numbers {
			b = strconv.AppendInt(append(b, ' '), int64(n), 10)
		}
	}
	return short(string(b))
}

// listsAsTheChapter holds And and Or of the lists, and Not of the first two, against what the chapter says of them.
func listsAsTheChapter(t *testing.T, l ...[]int) {
	t.Helper()
	and(t, andOf(l...), l...)
	or(t, orOf(l...), l...)
	if len(l) > 1 {
		not(t, notOf(l[0], l[1]), l[0], l[1])
		not(t, notOf(l[1], l[0]), l[1], l[0])
	}
}

// The chapter's first example.
func TestListsOfTheExample(t *testing.T) {
	and(t, ints(3, 5), ints(1, 3, 5), ints(3, 5, 7))
	or(t, ints(1, 2, 3), ints(1, 3), ints(2, 3))
	not(t, ints(1, 3), ints(1, 2, 3), ints(2))
	and(t, nil)
	and(t, ints(1, 3), ints(3, 1, 3), ints(1, 3))
}

// And returns the numbers that occur in all of the arguments.
func TestAnd(t *testing.T) {
	and(t, nil, [][]int{}...)
	and(t, nil, nil)
	and(t, nil, ints())
	and(t, nil, nil, nil)
	and(t, nil, ints(1, 2), nil)
	and(t, nil, ints(), ints(1, 2))
	and(t, nil, ints(1, 2), ints(1, 2), ints())
	and(t, ints(0), ints(0))
	and(t, ints(1, 2, 3), ints(1, 2, 3))
	and(t, ints(1, 2, 3), ints(3, 2, 1, 2, 3))
	and(t, nil, ints(1, 3), ints(2, 4))
	and(t, nil, ints(1, 2), ints(3, 4))
	and(t, nil, ints(3, 4), ints(1, 2))
	and(t, ints(2), ints(1, 2), ints(2, 3))
	and(t, ints(2), ints(2, 3), ints(1, 2))
	and(t, ints(2), ints(1, 2, 3), ints(2))
	and(t, ints(2), ints(2), ints(1, 2, 3))
	and(t, ints(1, 2, 3), ints(1, 2, 3), ints(1, 2, 3))
	and(t, ints(2), ints(1, 2), ints(2, 3), ints(0, 2, 4))
	and(t, nil, ints(1, 2), ints(2, 3), ints(3, 1))
	and(t, ints(4), ints(1, 4), ints(2, 4), ints(3, 4), ints(4), ints(4, 5))
}

// Or returns the numbers that occur in at least one of the arguments.
func TestOr(t *testing.T) {
	or(t, nil)
	or(t, nil, [][]int{}...)
	or(t, nil, nil)
	or(t, nil, ints(), nil, ints())
	or(t, ints(1, 2), ints(1, 2), nil)
	or(t, ints(1, 2), ints(), ints(1, 2))
	or(t, ints(0), ints(0))
	or(t, ints(1, 2, 3), ints(3, 2, 1, 2, 3))
	or(t, ints(1, 2, 3, 4), ints(1, 3), ints(2, 4))
	or(t, ints(1, 2, 3, 4), ints(3, 4), ints(1, 2))
	or(t, ints(1, 2, 3), ints(1, 2, 3), ints(1, 2, 3))
	or(t, ints(1, 2, 3), ints(1), ints(2), ints(3))
	or(t, ints(1, 2, 3), ints(3), ints(2), ints(1))
	or(t, ints(0, 1, 2, 3, 4), ints(1, 2), ints(2, 3), ints(0, 2, 4))
}

// Not returns the numbers of the first argument that do not occur in the second one.
func TestNot(t *testing.T) {
	not(t, nil, nil, nil)
	not(t, nil, ints(), ints())
	not(t, nil, nil, ints(1, 2))
	not(t, ints(1, 2), ints(1, 2), nil)
	not(t, ints(1, 2), ints(1, 2), ints())
	not(t, nil, ints(1, 2), ints(1, 2))
	not(t, nil, ints(1, 2), ints(0, 1, 2, 3))
	not(t, ints(0, 3), ints(0, 1, 2, 3), ints(1, 2))
	not(t, ints(1, 2), ints(0, 1, 2, 3), ints(3, 0))
	not(t, ints(1, 3), ints(3, 1, 3), ints(2, 2))
	not(t, ints(3), ints(3, 1, 3), ints(4, 1, 0, 1))
	not(t, ints(1, 2), ints(1, 2), ints(3, 4))
	not(t, ints(3, 4), ints(3, 4), ints(1, 2))
}

// The arguments may be any sequences: each stands for its numbers, sorted, each once.
func TestListsThatAreNone(t *testing.T) {
	for _, l := range [][]int{{2, 1}, {1, 1}, {1, 1, 2}, {1, 2, 2}, {2, 2, 1, 1}, {3, 1, 3}, {1, 3, 2}, {0, 0, 0, 0}, {5, -5, 5, 0, -5}} {
		want := orOf(l)
		or(t, want, l)
		and(t, want, l)
		not(t, want, l, nil)
		or(t, want, l, l)
		and(t, want, l, l)
		not(t, nil, l, l)
		or(t, want, l, want, nil)
		and(t, want, want, l, want)
		not(t, nil, l, want)
		not(t, nil, want, l)
		and(t, nil, l, ints(77, 77))
		not(t, want, l, ints(77, 77))
		not(t, ints(77), ints(77, 77), l)
	}
}

// A number that one argument holds twice is not one that two arguments hold.
func TestNumbersThatOneArgumentHoldsTwice(t *testing.T) {
	and(t, nil, ints(1, 1), ints(2))
	and(t, nil, ints(1, 1), nil)
	and(t, nil, ints(1, 1, 1), ints(2), ints(3))
	and(t, ints(1), ints(1, 1), ints(1))
	and(t, ints(1), ints(1), ints(1, 1, 1))
	and(t, ints(2), ints(1, 2, 1, 2), ints(2, 3))
}

// Negative numbers, and the greatest and the least, are numbers like others.
func TestListsOfAllNumbers(t *testing.T) {
	and(t, ints(-3, -1), ints(-3, -2, -1), ints(-1, -3, 5))
	or(t, ints(-3, -1, 0, 2), ints(2, -3), ints(0, -1))
	not(t, ints(-3), ints(-1, -3), ints(-1, 1))
	ends := ints(greatest, least, 0, -1, greatest, least)
	or(t, ints(least, -1, 0, greatest), ends)
	or(t, ints(least, -1, 0, greatest), ints(greatest), ints(least), ints(0), ints(-1))
	and(t, ints(least, greatest), ends, ints(least, 1, greatest))
	and(t, ints(least), ints(least), ends)
	and(t, ints(greatest), ends, ints(greatest))
	and(t, nil, ints(least), ints(greatest))
	not(t, ints(-1, 0), ends, ints(greatest, least))
	not(t, ints(least, greatest), ends, ints(0, -1))
	not(t, ints(least), ints(least, greatest), ints(greatest, least+1))
	not(t, ints(greatest), ints(least, greatest), ints(least, greatest-1))
	for _, n := range []int{least, least + 1, -1 << 32, -1, 0, 1, 1 << 32, greatest - 1, greatest} {
		and(t, ints(n), ints(n), ints(n))
		or(t, ints(n), ints(n), ints(n))
		not(t, nil, ints(n), ints(n))
		not(t, ints(n), ints(n), ints(n^1))
	}
}

// All arguments of up to three numbers from three, in pairs; all of up to two, in threes.
func TestAllShortLists(t *testing.T) {
	sequences := [][]int{nil}
	for from := 0; len(sequences[from]) < 3; from++ {
		for n := range 3 {
			sequences = append(sequences, append(slices.Clone(sequences[from]), n-1))
		}
	}
	if len(sequences) != 40 {
		t.Fatal(len(sequences))
	}
	for _, a := range sequences {
		listsAsTheChapter(t, a)
		for _, b := range sequences {
			listsAsTheChapter(t, a, b)
		}
	}
	for _, a := range sequences[:13] {
		for _, b := range sequences[:13] {
			for _, c := range sequences[:13] {
				listsAsTheChapter(t, a, b, c)
			}
		}
	}
}

// Many arguments: what belongs to all, to one, and to all but one.
func TestManyLists(t *testing.T) {
	var alone, without, same [][]int
	var all []int
	for n := range 500 {
		all = append(all, n)
	}
	for n := range 500 {
		alone = append(alone, ints(499-n))
		without = append(without, slices.Concat(all[n+1:], all[:n], ints(1000)))
		same = append(same, ints(7, 3, 7))
	}
	or(t, all, alone...)
	and(t, nil, alone...)
	and(t, ints(1000), without...)
	or(t, append(slices.Clone(all), 1000), without...)
	and(t, ints(3, 7), same...)
	or(t, ints(3, 7), same...)
	and(t, nil, append(same, ints(8))...)
	and(t, ints(7), append(same, ints(7))...)
	or(t, ints(3, 7, 8), append(same, ints(8))...)
}

// One list may be far longer than the others.
func TestLongLists(t *testing.T) {
	var long, even, falling []int
	for n := range 200000 {
		long = append(long, n)
		falling = append(falling, 199999-n)
		if n%2 == 0 {
			even = append(even, n)
		}
	}
	and(t, ints(0, 77777, 199999), long, ints(-1, 0, 77777, 199999, 200000))
	if !slices.Equal(postings.And(falling, even, long), even) || !slices.Equal(postings.Or(even, falling), long) {
		t.Error("And or Or of long lists")
	}
	odd := postings.Not(falling, even)
	if len(odd) != 100000 || odd[0] != 1 || odd[99999] != 199999 || len(postings.And(odd, even)) != 0 || !slices.Equal(postings.Or(odd, even), long) {
		t.Error("Not of long lists")
	}
}

// drawnList is a sequence of numbers, mostly of near ones.
func drawnList(x *dice) []int {
	var l []int
	for range x.below(1 + x.below(30)) {
		switch x.below(12) {
		case 0:
			l = append(l, least+x.below(3))
		case 1:
			l = append(l, greatest-x.below(3))
		default:
			l = append(l, x.below(20)-8)
		}
	}
	if x.below(2) == 0 {
		slices.Sort(l)
	}
	return l
}

// Drawn sequences, against plain sets. What And tells is in what Or tells; Not and And share nothing, and are together the first list.
func TestDrawnLists(t *testing.T) {
	x := dice(13)
	found := 0
	for range 20000 {
		l := [][]int{drawnList(&x), drawnList(&x)}
		for range x.below(5) {
			l = append(l, drawnList(&x))
		}
		if x.below(3) == 0 {
			l = append(l, l[x.below(len(l))])
		}
		listsAsTheChapter(t, l...)
		a, b := l[0], l[1]
		or(t, postings.Or(a), postings.And(a, b), postings.Not(a, b))
		and(t, nil, postings.And(a, b), postings.Not(a, b))
		and(t, postings.And(l...), postings.Or(l...), postings.And(l...))
		found += len(postings.And(l...))
	}
	if found < 5000 {
		t.Errorf("only %d numbers are in all of the drawn lists", found)
	}
}
