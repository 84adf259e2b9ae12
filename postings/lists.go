package postings

import (
	"container/heap"
	"slices"
)

// And are the numbers that are in all lists.
func And(l ...[]int) []int {
	return merge(func(many int) bool { return many == len(l) }, l...)
}

// Or are the numbers that are in one.
func Or(l ...[]int) []int {
	return merge(func(int) bool { return true }, l...)
}

// Not are those of a that are not in b.
func Not(a, b []int) []int {
	var kept []int
	gone := listOf(b)
	for _, n := range listOf(a) {
		if _, isGone := slices.BinarySearch(gone, n); !isGone {
			kept = append(kept, n)
		}
	}
	return kept
}

// merge are the numbers for which it holds how many of the lists have them; rising, each once.
func merge(holds func(many int) bool, l ...[]int) []int {
	var merged []int
	rest := heapOf(l...)
	for rest.Len() > 0 {
		n := rest.least()
		if holds(rest.take(n)) {
			merged = append(merged, n)
		}
	}
	return merged
}

// listOf is the list that l stands for. It may be l itself, for it is only read.
func listOf(l []int) []int {
	if isRising(l) {
		return l
	}
	return slices.Compact(slices.Sorted(slices.Values(l)))
}

func isRising(l []int) bool {
	for i := 1; i < len(l); i++ {
		if l[i] <= l[i-1] {
			return false
		}
	}
	return true
}

// lists is a heap of what is left of lists, by the numbers that they begin with; none of them is empty.
type lists [][]int

// heapOf has the lists that these stand for.
func heapOf(l ...[]int) *lists {
	h := new(lists)
	for _, numbers := range l {
		if len(numbers) > 0 {
			heap.Push(h, listOf(numbers))
		}
	}
	return h
}

// least is the least number of all lists.
func (h lists) least() int { return h[0][0] }

// take takes n, the least number, off all lists that have it, and tells how many these are.
func (h *lists) take(n int) int {
	many := 0
	for h.Len() > 0 && h.least() == n {
		h.takeFirst()
		many++
	}
	return many
}

// takeFirst takes the least number off one list.
func (h *lists) takeFirst() {
	first := (*h)[0]
	if len(first) == 1 {
		heap.Pop(h)
		return
	}
	(*h)[0] = first[1:]
	heap.Fix(h, 0)
}

// Len is how many lists there are.
func (h lists) Len() int { return len(h) }

// Less says whether one list begins with a lesser number than another one.
func (h lists) Less(i, j int) bool { return h[i][0] < h[j][0] }

// Swap swaps two lists.
func (h lists) Swap(i, j int) { h[i], h[j] = h[j], h[i] }

// Push lays a list behind the others.
func (h *lists) Push(list any) { *h = append(*h, list.([]int)) }

// Pop takes the last list away.
func (h *lists) Pop() any {
	last := h.Len() - 1
	list := (*h)[last]
	*h = (*h)[:last]
	return list
}
