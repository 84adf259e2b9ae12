package index

import (
	"maps"
	"slices"

	"barograph/api"
	"barograph/labels"
)

// posting tells which entries have a label.
type posting struct {
	label   api.Label
	entries []int // their numbers, rising
}

// postingsOf are those of all labels that entries have, by rising labels.
func postingsOf(l []api.Entry) []posting {
	having := map[api.Label][]int{}
	for n, e := range l {
		for _, label := range e.Labels {
			having[label] = append(having[label], n)
		}
	}
	all := make([]posting, 0, len(having))
	for _, label := range slices.SortedFunc(maps.Keys(having), compare) {
		all = append(all, posting{label, having[label]})
	}
	return all
}

// compare orders labels by their names, then by their values.
func compare(a, b api.Label) int { return labels.Cmp([]api.Label{a}, []api.Label{b}) }

// symbolsOf are the names and values of the labels, rising.
func symbolsOf(l []posting) []string {
	symbols := map[string]struct{}{}
	for _, p := range l {
		symbols[p.label.Name] = struct{}{}
		symbols[p.label.Value] = struct{}{}
	}
	return slices.Sorted(maps.Keys(symbols))
}

// from are the postings of this label and of all that are greater.
func (x *Index) from(label api.Label) []posting {
	at, _ := slices.BinarySearchFunc(x.postings, label, func(p posting, label api.Label) int { return compare(p.label, label) })
	return x.postings[at:]
}

// named are the postings of the labels of that name.
func (x *Index) named(name string) []posting {
	l := x.from(api.Label{Name: name})
	if end := slices.IndexFunc(l, func(p posting) bool { return p.label.Name != name }); end >= 0 {
		return l[:end]
	}
	return l
}
