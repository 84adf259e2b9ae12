package labels_test

import (
	"bytes"
	"slices"
	"testing"

	"barograph/api"
	"barograph/labels"
)

// roomy is a copy of a list with labels behind its end, in the same memory.
func roomy(l []api.Label) []api.Label {
	return append(slices.Clone(l), list("a", "behind", "0", "", "zz", "behind")...)[:len(l)]
}

// behind is what lies behind a list.
func behind(l []api.Label) []api.Label { return l[len(l) : len(l)+3] }

// scribble changes a list, and what there is room for behind it.
func scribble(l []api.Label) {
	l = l[:cap(l)]
	for i := range l {
		l[i] = api.Label{Name: "scribbled", Value: "x"}
	}
}

// answers are the calls that answer a list.
func answers() map[string]func(l []api.Label) []api.Label {
	return map[string]func(l []api.Label) []api.Label{
		"Set":                  func(l []api.Label) []api.Label { set, _ := labels.Set(l); return set },
		"With in front":        func(l []api.Label) []api.Label { return labels.With(l, "A", "9") },
		"With between":         func(l []api.Label) []api.Label { return labels.With(l, "aa", "9") },
		"With behind":          func(l []api.Label) []api.Label { return labels.With(l, "zz", "9") },
		"With another's":       func(l []api.Label) []api.Label { return labels.With(l, "b", "9") },
		"With, taken away":     func(l []api.Label) []api.Label { return labels.With(l, "b", "") },
		"With, nothing":        func(l []api.Label) []api.Label { return labels.With(l, "q", "") },
		"Keep of all":          func(l []api.Label) []api.Label { return labels.Keep(l, "a", "b", "c", "d", "e") },
		"Keep of some":         func(l []api.Label) []api.Label { return labels.Keep(l, "c", "a") },
		"Keep of the first":    func(l []api.Label) []api.Label { return labels.Keep(l, "a") },
		"Without nothing":      func(l []api.Label) []api.Label { return labels.Without(l) },
		"Without some":         func(l []api.Label) []api.Label { return labels.Without(l, "a") },
		"Without the last one": func(l []api.Label) []api.Label { return labels.Without(l, "e", "d", "c") },
	}
}

// What is handed in stays as it is, what lies behind it too; and what comes out has nothing to do with it from then on.
func TestListsAreNeitherChangedNorShared(t *testing.T) {
	for name, call := range answers() {
		for _, want := range [][]api.Label{
			list("a", "1", "b", "2", "c", "3", "d", "4", "e", "5"),
			list("c", "3", "a", "1", "e", "5", "b", "2"),
			list("e", "5", "d", "", "c", "3", "b", "", "a", "1"),
			list("b", "2"),
			nil,
		} {
			l := roomy(want)
			first := call(l)
			if !slices.Equal(l, want) || !slices.Equal(behind(l), list("a", "behind", "0", "", "zz", "behind")) {
				t.Errorf("%s has changed what it was given: %s", name, shown(l[:len(l)+3]))
			}
			told := slices.Clone(first)
			second := call(l)
			if !slices.Equal(second, told) {
				t.Errorf("%s: %s, then %s", name, shown(told), shown(second))
			}
			scribble(second)
			if !slices.Equal(l, want) || !slices.Equal(behind(l), list("a", "behind", "0", "", "zz", "behind")) || !slices.Equal(first, told) {
				t.Errorf("what %s answers shares memory", name)
			}
			scribble(l)
			if !slices.Equal(first, told) {
				t.Errorf("what %s answers shares memory with what it was given", name)
			}
		}
	}
}

// The calls that answer no list leave theirs as it is.
func TestListsThatAreAskedStay(t *testing.T) {
	for _, want := range [][]api.Label{list("b", "1", "a", "2", "b", "3"), list("c", "1", "b", "2", "a", "3"), list("a", "1", "b", "2")} {
		l := roomy(want)
		labels.Check(l)
		labels.Cmp(l, l)
		labels.Get(l, "a")
		labels.Print(l)
		labels.Encode(l)
		labels.Set(l)
		if !slices.Equal(l, want) || !slices.Equal(behind(l), list("a", "behind", "0", "", "zz", "behind")) {
			t.Errorf("%s has become %s", shown(want), shown(l[:len(l)+3]))
		}
		if labels.Get(l, "zz") != "" || labels.Print(l) != printOf(want) || labels.Cmp(l, want) != 0 || labels.Check(l) != checkOf(want) {
			t.Errorf("what lies behind %s was read", shown(want))
		}
	}
}

func TestNamesThatAreHandedInStay(t *testing.T) {
	names := append(make([]string, 0, 8), "c", "a", "c", "")
	names = append(names, "behind", "b")[:4]
	l := list("a", "1", "b", "2", "c", "3")
	kept, others := labels.Keep(l, names...), labels.Without(l, names...)
	if !slices.Equal(names[:6], []string{"c", "a", "c", "", "behind", "b"}) {
		t.Errorf("the names have become %q", names[:6])
	}
	names[0], names[1] = "b", "b"
	if !slices.Equal(kept, list("a", "1", "c", "3")) || !slices.Equal(others, list("b", "2")) {
		t.Error("what was answered hangs on the names still")
	}
}

func overwrite(b []byte) {
	for i := range b {
		b[i] = 0xee
	}
}

func TestBytesAreNeitherChangedNorShared(t *testing.T) {
	l := list("a", "one", "b", "two")
	want := raw(l)
	first, _ := labels.Encode(l)
	second, _ := labels.Encode(l)
	overwrite(second[:cap(second)])
	if !bytes.Equal(first, want) || !slices.Equal(l, list("a", "one", "b", "two")) {
		t.Error("what Encode answers shares memory")
	}

	b := append(slices.Clone(want), "behind"...)
	got, n, _ := labels.Decode(b[:len(want)])
	again, _, _ := labels.Decode(b)
	if !bytes.Equal(b, append(slices.Clone(want), "behind"...)) {
		t.Error("Decode has changed what it was given")
	}
	overwrite(b)
	if n != len(want) || !slices.Equal(got, l) {
		t.Error("what Decode answers shares memory with what it was given")
	}
	scribble(again)
	if !slices.Equal(got, l) {
		t.Error("two answers of Decode share memory")
	}
}

func TestAnswersOfParseShareNothing(t *testing.T) {
	const s = `{b="2", a="1"}`
	first, _, _ := labels.Parse(s)
	second, _, _ := labels.Parse(s)
	scribble(second)
	if !slices.Equal(first, list("a", "1", "b", "2")) {
		t.Error("two answers of Parse share memory")
	}
	parses(t, s, first)
}
