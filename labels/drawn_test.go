package labels_test

import (
	"slices"
	"strings"
	"testing"

	"barograph/api"
	"barograph/labels"
)

// drawn is a list of few names and values, so that many things come together.
func (d *dice) drawn() []api.Label {
	names := []string{"a", "b", "c", "aa", "ab", "_", "A", "Z9", "z", "__name__"}
	values := []string{"1", "2", "x", "10", "\xff", "\x00", `"`, "a b", "€", `\`}
	if d.below(4) == 0 {
		names = append(names, "", "1", "a b", "\xff", "é", strings.Repeat("n", 1024), strings.Repeat("n", 1025))
	}
	if d.below(3) == 0 {
		values = append(values, "", "", "", strings.Repeat("v", 1024))
	}
	if d.below(9) == 0 {
		values = append(values, strings.Repeat("v", 1025))
	}
	var l []api.Label
	for range d.below(1 + d.below(8)) {
		l = append(l, api.Label{Name: names[d.below(len(names))], Value: values[d.below(len(values))]})
	}
	if d.below(8) == 0 {
		l = append(l, many(56+d.below(12))...)
		l[d.below(len(l))].Value = ""
	}
	switch d.below(3) {
	case 0:
		slices.SortFunc(l, func(x, y api.Label) int { return strings.Compare(x.Name, y.Name) })
	case 1:
		for i := range l {
			j := d.below(i + 1)
			l[i], l[j] = l[j], l[i]
		}
	}
	return l
}

// set is a drawn set, of any bytes.
func (d *dice) set() []api.Label {
	const bytes = "abzABZ_09"
	var l []api.Label
	for range d.below(1 + d.below(65)) {
		name := "aZ_"[d.below(3):][:1]
		for range d.below(1 + d.below(30)) {
			name += bytes[d.below(len(bytes)):][:1]
		}
		l = append(l, api.Label{Name: name, Value: d.bytes(1 + d.below(1+d.below(40)))})
	}
	slices.SortFunc(l, func(x, y api.Label) int { return strings.Compare(x.Name, y.Name) })
	return slices.CompactFunc(l, func(x, y api.Label) bool { return x.Name == y.Name })
}

// Every call says of drawn lists what the chapter says of it.
func TestDrawnListsAsTheChapter(t *testing.T) {
	d := dice(7)
	told := map[api.Errno]int{}
	for range 40000 {
		l := d.drawn()
		checks(t, l, checkOf(l))
		told[checkOf(l)]++
		if want, errno := setOf(l); errno == api.OK {
			sets(t, l, want)
		} else {
			setFails(t, l, errno)
		}
		if want, errno := encodeOf(l); errno == api.OK {
			encodes(t, l, want)
			decodes(t, want, l, len(want))
		} else {
			encodeFails(t, l, errno)
		}
		prints(t, l, printOf(l))
		if len(l) < 256 && len(raw(l)) < 300 {
			decodesAsTheChapter(t, raw(l))
		}
		other := d.drawn()
		if got, want := labels.Cmp(l, other), cmpOf(l, other); got != want {
			t.Errorf("Cmp(%s, %s) = %d, want %d", shown(l), shown(other), got, want)
		}
		names := []string{"a", "q"}
		for _, x := range other {
			names = append(names, x.Name)
		}
		keeps(t, l, names, partOf(l, names, true), partOf(l, names, false))
		keeps(t, l, names[2:], partOf(l, names[2:], true), partOf(l, names[2:], false))
		for _, x := range append(other, list("a", "9", "b", "")...) {
			if got, want := labels.Get(l, x.Name), getOf(l, x.Name); got != want {
				t.Errorf("Get(%s, %q) = %q, want %q", shown(l), x.Name, got, want)
			}
			withs(t, l, x.Name, x.Value, withOf(l, x.Name, x.Value))
		}
		if t.Failed() {
			return
		}
	}
	for _, errno := range []api.Errno{api.OK, api.ErrLabelsForm, api.ErrLabelsTwice, api.ErrLabelsMany} {
		if told[errno] < 500 {
			t.Errorf("%v holds of %d drawn lists only", errno, told[errno])
		}
	}
}

func TestDrawnSetsAreReadAgain(t *testing.T) {
	d := dice(11)
	for range 6000 {
		l := d.set()
		checks(t, l, api.OK)
		sets(t, l, l)
		b, errno := labels.Encode(l)
		if errno != api.OK {
			t.Errorf("Encode(%s): %v", shown(l), errno)
		}
		decodes(t, b, l, len(b))
		decodes(t, append(b, d.bytes(d.below(20))...), l, len(b))
		parses(t, labels.Print(l), l)
	}
}

// Set of a set is that set; and of a list in another order, with labels without a value between, it is the same one.
func TestSetOfASet(t *testing.T) {
	d := dice(13)
	for range 6000 {
		l := d.set()
		mixed := slices.Clone(l)
		for i := range d.below(5) {
			name := "empty" + string(rune('0'+i))
			mixed = append(mixed, api.Label{Name: name})
		}
		for i := range mixed {
			j := d.below(i + 1)
			mixed[i], mixed[j] = mixed[j], mixed[i]
		}
		set, errno := labels.Set(mixed)
		if errno != api.OK || !slices.Equal(set, l) {
			t.Errorf("Set(%s) = %s, %v", shown(mixed), shown(set), errno)
		}
		sets(t, set, set)
		checks(t, set, api.OK)
	}
}

// Cmp is a total order of sets, and 0 only for equal ones.
func TestCmpIsATotalOrder(t *testing.T) {
	all := [][]api.Label{nil, many(2), many(3), many(64), list("a", "1"), list("a", "1", "b", "1"), list("a", "1", "ab", "1"), list("ab", "1"), list("a", "1\x00"), list("a", "\xff"), list("a", "b"), list("_", "z"), list("Z", "a")}
	d := dice(17)
	for len(all) < 90 {
		l := d.drawn()
		if set, errno := labels.Set(l); errno == api.OK {
			all = append(all, set)
		}
	}
	for _, a := range all {
		for _, b := range all {
			order := labels.Cmp(a, b)
			if (order == 0) != slices.Equal(a, b) || order != -labels.Cmp(b, a) || order < -1 || order > 1 {
				t.Errorf("Cmp(%s, %s) = %d, and the other way %d", shown(a), shown(b), order, labels.Cmp(b, a))
			}
			for _, c := range all {
				if order <= 0 && labels.Cmp(b, c) <= 0 && labels.Cmp(a, c) > 0 {
					t.Errorf("%s, %s, %s are in no order", shown(a), shown(b), shown(c))
				}
			}
		}
	}
}

// What With, Keep and Without leave of a set is one.
func TestPartsOfSetsAreSets(t *testing.T) {
	d := dice(19)
	for range 4000 {
		l := d.set()
		names := []string{"a"}
		for _, x := range l {
			if d.below(2) == 0 {
				names = append(names, x.Name)
			}
		}
		kept, others := labels.Keep(l, names...), labels.Without(l, names...)
		checks(t, kept, api.OK)
		checks(t, others, api.OK)
		sets(t, append(slices.Clone(kept), others...), l)
		name := names[d.below(len(names))]
		checks(t, labels.With(l, name, ""), api.OK)
		if with := labels.With(l, name, "v"); len(with) <= 64 {
			checks(t, with, api.OK)
			if labels.Get(with, name) != "v" || labels.Get(labels.With(with, name, ""), name) != "" {
				t.Errorf("the value of %s is lost: %s", name, shown(with))
			}
		}
	}
}
