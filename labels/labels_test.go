package labels_test

import (
	"slices"
	"strings"
	"testing"

	"barograph/api"
	"barograph/labels"
)

func TestExamplesOfSets(t *testing.T) {
	sets(t, list("b", "2", "a", "1", "c", ""), list("a", "1", "b", "2"))
	setFails(t, list("a", "1", "a", ""), api.ErrLabelsTwice)
	checks(t, list("b", "2", "a", "1"), api.ErrLabelsForm)
	checks(t, list("a", "1", "a", "1"), api.ErrLabelsTwice)
	withs(t, list("a", "1", "c", "3"), "b", "2", list("a", "1", "b", "2", "c", "3"))
	withs(t, list("a", "1", "c", "3"), "a", "", list("c", "3"))
}

func TestNumbersOfErrorsAndLimits(t *testing.T) {
	if api.ErrLabelsForm != 70 || api.ErrLabelsTwice != 71 || api.ErrLabelsMany != 72 || api.MaxLabel != 1024 || api.MaxLabels != 64 {
		t.Error("an error, or a limit, has another number")
	}
}

// names asks whether Name, Check and Set take a name.
func names(t *testing.T, s string, want bool) {
	t.Helper()
	if got := labels.Name(s); got != want {
		t.Errorf("Name(%q) of %d bytes = %t", short(s), len(s), got)
	}
	l := list(s, "1")
	if want {
		checks(t, l, api.OK)
		sets(t, l, l)
		sets(t, list(s, ""), nil)
	} else {
		checks(t, l, api.ErrLabelsForm)
		setFails(t, l, api.ErrLabelsForm)
		setFails(t, list(s, ""), api.ErrLabelsForm)
	}
}

func TestNameOfEachLength(t *testing.T) {
	names(t, "", false)
	for _, first := range []string{"a", "z", "A", "Z", "_"} {
		for _, more := range []string{"a", "Z", "_", "0", "9"} {
			for _, size := range []int{1, 2, 3, 255, 256, 257, 511, 512, 1023, 1024} {
				names(t, first+strings.Repeat(more, size-1), true)
			}
			for _, size := range []int{1025, 1026, 1280, 2048, 65536, 65537} {
				names(t, first+strings.Repeat(more, size-1), false)
			}
		}
	}
	for _, first := range []string{"0", "9"} {
		for _, size := range []int{1, 2, 1023, 1024, 1025} {
			names(t, first+strings.Repeat("a", size-1), false)
		}
	}
}

// What a byte may be is written out here once more, by bounds of numbers.
func isLetter(c int) bool { return c >= 0x41 && c <= 0x5a || c == 0x5f || c >= 0x61 && c <= 0x7a }

func isDigit(c int) bool { return c >= 0x30 && c <= 0x39 }

func TestNameOfEachByte(t *testing.T) {
	for c := range 256 {
		s := string([]byte{byte(c)})
		names(t, s, isLetter(c))
		names(t, s+"a", isLetter(c))
		names(t, s+"0_Z", isLetter(c))
		names(t, s+strings.Repeat("x", 1023), isLetter(c))
		for _, head := range []string{"a", "_", "Z9", "a_0", strings.Repeat("y", 511), strings.Repeat("y", 1023)} {
			names(t, head+s, isLetter(c) || isDigit(c))
			if len(head) < 1023 {
				names(t, head+s+"b", isLetter(c) || isDigit(c))
				names(t, head+s+s+"0", isLetter(c) || isDigit(c))
			}
			names(t, head+s+strings.Repeat("x", 1024), false)
		}
	}
}

func TestNamesThatAreNone(t *testing.T) {
	for _, s := range []string{" a", "a ", "a b", "a-b", "a.b", "a:b", ":a", "é", "aé", "ａ", "a１", "a\u0301", "\u0131", "\u212a", "\u017f", "a\x00", "\x00", "1", "1a", "__ ", "-", "{a", `"a"`} {
		names(t, s, false)
	}
	for _, s := range []string{"_", "__", "__name__", "_0", "a1", "A_b9", "le", "nAn"} {
		names(t, s, true)
	}
}

func TestValuesOfEachLength(t *testing.T) {
	checks(t, list("a", ""), api.ErrLabelsForm)
	sets(t, list("a", ""), nil)
	for _, size := range []int{1, 2, 255, 256, 257, 1023, 1024} {
		l := list("a", strings.Repeat("v", size))
		checks(t, l, api.OK)
		sets(t, l, l)
	}
	for _, size := range []int{1025, 1026, 1280, 2048, 65536, 65537} {
		l := list("a", strings.Repeat("v", size))
		checks(t, l, api.ErrLabelsForm)
		setFails(t, l, api.ErrLabelsForm)
	}
	checks(t, list("a", "1", "b", ""), api.ErrLabelsForm)
	checks(t, list("a", "", "b", "1"), api.ErrLabelsForm)
	checks(t, list("a", "1", "b", strings.Repeat("v", 1025)), api.ErrLabelsForm)
	checks(t, list("a", strings.Repeat("v", 1025), "b", "1"), api.ErrLabelsForm)
}

func TestValuesOfAnyBytes(t *testing.T) {
	for c := range 256 {
		s := string([]byte{byte(c)})
		for _, value := range []string{s, "a" + s, s + "a", "a" + s + "b", strings.Repeat(s, 1024)} {
			l := list("a", value)
			checks(t, l, api.OK)
			sets(t, l, l)
		}
		checks(t, list("a", strings.Repeat(s, 1025)), api.ErrLabelsForm)
		setFails(t, list("a", strings.Repeat(s, 1025)), api.ErrLabelsForm)
	}
	// Bytes are counted, not runes: there are 1026 of them, and 342 runes.
	setFails(t, list("a", strings.Repeat("€", 342)), api.ErrLabelsForm)
	all := list("a", strings.Repeat(allBytes(), 4))
	checks(t, all, api.OK)
	sets(t, all, all)
}

func TestCheckAndSetOfEachNumber(t *testing.T) {
	checks(t, nil, api.OK)
	checks(t, []api.Label{}, api.OK)
	sets(t, nil, nil)
	sets(t, []api.Label{}, nil)
	for _, n := range []int{1, 2, 3, 12, 13, 32, 63, 64} {
		checks(t, many(n), api.OK)
		sets(t, many(n), many(n))
		back := many(n)
		slices.Reverse(back)
		sets(t, back, many(n))
	}
	for _, n := range []int{65, 66, 128, 256, 320, 321, 999} {
		checks(t, many(n), api.ErrLabelsMany)
		setFails(t, many(n), api.ErrLabelsMany)
	}
}

// emptied is a list some of whose values are empty: those at which one is told to be.
func emptied(l []api.Label, isEmpty func(i int) bool) []api.Label {
	l = slices.Clone(l)
	for i := range l {
		if isEmpty(i) {
			l[i].Value = ""
		}
	}
	return l
}

// Labels without a value aren't counted by Set, wherever they stand; Check counts them.
func TestEmptyValuesAreNotCounted(t *testing.T) {
	for _, n := range []int{65, 66, 100, 128, 500, 999} {
		for name, isEmpty := range map[string]func(keep int) func(i int) bool{
			"the last ones":  func(keep int) func(i int) bool { return func(i int) bool { return i >= keep } },
			"the first ones": func(keep int) func(i int) bool { return func(i int) bool { return i < n-keep } },
			"all around":     func(keep int) func(i int) bool { return func(i int) bool { return i < 1 || i > keep } },
		} {
			for keep := range 68 {
				if keep >= n {
					continue
				}
				l := emptied(many(n), isEmpty(keep))
				var want []api.Label
				for _, x := range l {
					if x.Value != "" {
						want = append(want, x)
					}
				}
				if len(want) != keep {
					t.Fatalf("%s: %d values, not %d", name, len(want), keep)
				}
				checks(t, l, api.ErrLabelsMany)
				if keep <= 64 {
					sets(t, l, want)
				} else {
					setFails(t, l, api.ErrLabelsMany)
				}
			}
		}
	}
}

// Each of these lists has one thing wrong or several.
func TestCheckTellsTheFirstError(t *testing.T) {
	const form, twice, most = api.ErrLabelsForm, api.ErrLabelsTwice, api.ErrLabelsMany
	long := strings.Repeat("v", 1025)
	for _, x := range []struct {
		l    []api.Label
		want api.Errno
	}{
		{list("1", "1"), form},
		{list("a", "1", "1", "1"), form},
		{list("a", ""), form},
		{list("a", long), form},
		{list("a", "1", "a", "1"), twice},
		{list("a", "1", "a", "2"), twice},
		{list("b", "1", "a", "1"), form},
		{list("a", "1", "c", "1", "b", "1"), form},
		// A name, or a value, is wrong, and a name is there twice.
		{list("a", "1", "a", "1", "1", "1"), form},
		{list("1", "1", "1", "1"), form},
		{list("", "1", "", "1"), form},
		{list("a", "1", "a", ""), form},
		{list("a", "", "a", "1"), form},
		{list("a", "", "a", ""), form},
		{list("a", "1", "a", "1", "b", ""), form},
		{list("a", "1", "a", long), form},
		{list("a", "1", "a", "1", "b", long), form},
		// A name is there twice, and names fall.
		{list("b", "1", "a", "1", "a", "1"), twice},
		{list("a", "1", "b", "1", "a", "1"), twice},
		{list("b", "1", "b", "1", "a", "1"), twice},
		{list("c", "1", "b", "1", "a", "1", "c", "1"), twice},
		{list("d", "1", "c", "1", "b", "1", "b", "1", "a", "1"), twice},
		// More than 64, and each of the others.
		{append(many(64), list("1", "1")...), most},
		{append(list("", "1"), many(64)...), most},
		{append(many(64), list("z", "")...), most},
		{append(many(64), list("z", long)...), most},
		{append(many(64), list("n000", "1")...), most},
		{append(list("n000", "1"), many(64)...), most},
		{append(many(64), list("a", "1")...), most},
		{append(many(64), list("1", "", "n000", "1", "n000", long, "a", "1")...), most},
		{emptied(many(65), func(int) bool { return true }), most},
		{make([]api.Label, 65), most},
		{make([]api.Label, 64), form},
		// No more than 64, all of them.
		{append(many(63), list("z", "")...), form},
		{append(many(63), list("n000", "v")...), twice},
		{append(many(63), list("a", "v")...), form},
		{append(many(62), list("a", "v", "a", "v")...), twice},
		{append(many(61), list("a", "v", "a", "v", "a", "")...), form},
	} {
		checks(t, x.l, x.want)
		if want := checkOf(x.l); want != x.want {
			t.Errorf("the description says %v of %s", want, shown(x.l))
		}
	}
}

func TestSetTellsTheFirstError(t *testing.T) {
	const form, twice, most = api.ErrLabelsForm, api.ErrLabelsTwice, api.ErrLabelsMany
	long := strings.Repeat("v", 1025)
	for _, x := range []struct {
		l    []api.Label
		want api.Errno
	}{
		{list("1", "1"), form},
		{list("1", ""), form},
		{list("a", long), form},
		{list("a", "1", "a", "1"), twice},
		{list("a", "1", "a", "2"), twice},
		{list("a", "1", "a", ""), twice},
		{list("a", "", "a", "1"), twice},
		{list("a", "", "a", ""), twice},
		{list("a", "", "b", "1", "a", ""), twice},
		{list("b", "1", "a", "1", "c", "", "b", ""), twice},
		// A name, or a value, is wrong, and a name is there twice.
		{list("a", "1", "a", "1", "1", "1"), form},
		{list("a", "1", "a", "1", "1", ""), form},
		{list("1", "", "a", "1", "a", "1"), form},
		{list("", "", "", ""), form},
		{list("a", "1", "a", long), form},
		{list("a", long, "a", ""), form},
		{list("a", "", "a", "", "b", long), form},
		// A name, or a value, is wrong, and there are more than 64 values.
		{append(many(65), list("1", "1")...), form},
		{append(list("", ""), many(65)...), form},
		{append(many(64), list("1", "1")...), form},
		{append(many(64), list("z", long)...), form},
		{append(list("z", long), many(65)...), form},
		// A name is there twice, and there are more than 64 values.
		{append(many(65), list("n000", "v")...), twice},
		{append(many(65), list("n064", "v")...), twice},
		{append(many(65), list("n064", "")...), twice},
		{append(list("n064", ""), many(65)...), twice},
		{append(many(64), list("n032", "v")...), twice},
		{append(many(64), list("n032", "")...), twice},
		{append(many(900), list("n450", "")...), twice},
		// All of them.
		{append(many(65), list("n000", "v", "1", "1")...), form},
		{append(many(65), list("n000", "", "z", long)...), form},
		{append(list("n000", "", "", ""), many(65)...), form},
		{append(many(65), list("z", "")...), most},
		{append(list("a", ""), many(65)...), most},
	} {
		setFails(t, x.l, x.want)
		if _, want := setOf(x.l); want != x.want {
			t.Errorf("the description says %v of %s", want, shown(x.l))
		}
	}
}

// A list of 64 has two of its labels changed for one another, or one's name given to another one: wherever they stand, Check tells it, and Set orders them.
func TestNamesThatFallOrAreTheSame(t *testing.T) {
	for j := range 64 {
		for i := range j {
			l := many(64)
			l[i], l[j] = l[j], l[i]
			checks(t, l, api.ErrLabelsForm)
			sets(t, l, many(64))
			l = many(64)
			l[j].Name = l[i].Name
			checks(t, l, api.ErrLabelsTwice)
			setFails(t, l, api.ErrLabelsTwice)
			l[i].Value = ""
			checks(t, l, api.ErrLabelsForm)
			setFails(t, l, api.ErrLabelsTwice)
		}
	}
}

// permuted hands over each order of a list.
func permuted(l []api.Label, yield func(l []api.Label)) {
	var place func(at int)
	place = func(at int) {
		if at == len(l) {
			yield(slices.Clone(l))
			return
		}
		for i := at; i < len(l); i++ {
			l[at], l[i] = l[i], l[at]
			place(at + 1)
			l[at], l[i] = l[i], l[at]
		}
	}
	place(0)
}

// Names are ordered by their bytes: a digit, a great letter, the line and a small letter; and one is ahead of those that it begins.
func TestSetOrdersByBytes(t *testing.T) {
	want := list("A", "\x00", "Z", "z", "_", "\xff", "a", "9", "a0", "8", "aA", "7", "a_", "6")
	permuted(slices.Clone(want), func(l []api.Label) {
		sets(t, l, want)
		if slices.Equal(l, want) {
			checks(t, l, api.OK)
		} else {
			checks(t, l, api.ErrLabelsForm)
		}
	})
	more := list("a_", "1", "aa", "1", "aaa", "1", "ab", "1", "b", "1")
	permuted(slices.Clone(more), func(l []api.Label) { sets(t, append(l, list("z", "", "aaaa", "")...), more) })
}

func TestCmpOfAnyLists(t *testing.T) {
	for _, x := range []struct {
		a, b []api.Label
		want int
	}{
		{nil, nil, 0},
		{nil, []api.Label{}, 0},
		{nil, list("", ""), -1},
		{nil, list("a", "1"), -1},
		{list("a", "1"), list("a", "1"), 0},
		// Values.
		{list("a", "1"), list("a", "2"), -1},
		{list("a", ""), list("a", "1"), -1},
		{list("a", "1"), list("a", "10"), -1},
		{list("a", "10"), list("a", "2"), -1},
		{list("a", "1"), list("a", "1\x00"), -1},
		{list("a", "\x7f"), list("a", "\x80"), -1},
		{list("a", "z"), list("a", "\xff"), -1},
		{list("a", "\xfe"), list("a", "\xff"), -1},
		{list("a", "\xef\xbf\xbd"), list("a", "\xf0"), -1},
		{list("a", "\xc3\xa9"), list("a", "\xff"), -1},
		{list("a", "Z"), list("a", "a"), -1},
		// Names ahead of values.
		{list("a", "2"), list("b", "1"), -1},
		{list("A", "2"), list("a", "1"), -1},
		{list("Z", "2"), list("_", "1"), -1},
		{list("_", "2"), list("a", "1"), -1},
		{list("", "2"), list("a", "1"), -1},
		{list("a", "2"), list("ab", "1"), -1},
		{list("a", "bc"), list("ab", "c"), -1},
		{list("a", "bc"), list("ab", ""), -1},
		{list("\x7f", "2"), list("\x80", "1"), -1},
		{list("z", "2"), list("\xff", "1"), -1},
		{list("a\x7f", "2"), list("a\xc2\x80", "1"), -1},
		// The first difference.
		{list("a", "1", "b", "2"), list("a", "2", "b", "1"), -1},
		{list("a", "1", "c", "1"), list("a", "2", "b", "1"), -1},
		{list("a", "1", "b", "1"), list("a", "1", "b", "2"), -1},
		{list("a", "1", "b", "2"), list("a", "1", "c", "1"), -1},
		{list("a", "1", "z", "9"), list("b", "1"), -1},
		{list("a", "1", "a", "1", "a", "1"), list("a", "2"), -1},
		// A list and its beginning.
		{list("a", "1"), list("a", "1", "b", "1"), -1},
		{list("a", "1"), list("a", "1", "", ""), -1},
		{list("a", "1"), list("a", "1", "a", "1"), -1},
		{list("b", "1", "a", "1"), list("b", "1", "a", "1", "a", "0"), -1},
		{many(64), many(65), -1},
		{many(200), many(999), -1},
		// No sets.
		{list("b", "1", "a", "1"), list("b", "1", "a", "2"), -1},
		{list("a", "1", "b", "2"), list("b", "2", "a", "1"), -1},
		{list("1", ""), list("2", ""), -1},
		{list("b", "1", "a", "1"), list("b", "1", "a", "1"), 0},
		{list("", ""), list("", ""), 0},
	} {
		if got := labels.Cmp(x.a, x.b); got != x.want {
			t.Errorf("Cmp(%s, %s) = %d, want %d", shown(x.a), shown(x.b), got, x.want)
		}
		if got := labels.Cmp(x.b, x.a); got != -x.want {
			t.Errorf("Cmp(%s, %s) = %d, want %d", shown(x.b), shown(x.a), got, -x.want)
		}
	}
}

// Any two bytes, at any place of a name or a value, are in the order of their numbers.
func TestCmpOfEachTwoBytes(t *testing.T) {
	for c := range 256 {
		for d := range 256 {
			want := 0
			if c != d {
				want = 1
			}
			if c < d {
				want = -1
			}
			x, y := string([]byte{byte(c)}), string([]byte{byte(d)})
			for _, tail := range []string{"", "z"} {
				for _, l := range [][2][]api.Label{
					{list("a"+x+tail, "1"), list("a"+y+tail, "1")},
					{list("a", "1"+x+tail), list("a", "1"+y+tail)},
				} {
					if got := labels.Cmp(l[0], l[1]); got != want {
						t.Fatalf("Cmp(%s, %s) = %d, want %d", shown(l[0]), shown(l[1]), got, want)
					}
				}
			}
		}
	}
}

func TestGet(t *testing.T) {
	for _, x := range []struct {
		l          []api.Label
		name, want string
	}{
		{nil, "a", ""},
		{nil, "", ""},
		{list("a", "1"), "a", "1"},
		{list("a", "1"), "A", ""},
		{list("a", "1"), "", ""},
		{list("a", "1"), "aa", ""},
		{list("aa", "1"), "a", ""},
		{list("a", "1", "b", "2", "c", "3"), "a", "1"},
		{list("a", "1", "b", "2", "c", "3"), "b", "2"},
		{list("a", "1", "b", "2", "c", "3"), "c", "3"},
		{list("a", "1", "b", "2", "c", "3"), "d", ""},
		{list("a", "1", "b", "2", "c", "3"), "0", ""},
		// No sets: the first one, whatever follows.
		{list("c", "3", "a", "1", "b", "2"), "a", "1"},
		{list("c", "3", "a", "1", "b", "2"), "b", "2"},
		{list("a", "1", "a", "2"), "a", "1"},
		{list("a", "2", "a", "1"), "a", "2"},
		{list("b", "0", "a", "1", "b", "2", "a", "3"), "a", "1"},
		{list("a", "", "a", "1"), "a", ""},
		{list("", "1"), "", "1"},
		{list("1 \xff", "x"), "1 \xff", "x"},
		{many(999), "n998", "v"},
	} {
		if got := labels.Get(x.l, x.name); got != x.want {
			t.Errorf("Get(%s, %q) = %q, want %q", shown(x.l), x.name, got, x.want)
		}
	}
}

// withs asks With for a list.
func withs(t *testing.T, l []api.Label, name, value string, want []api.Label) {
	t.Helper()
	if got := labels.With(l, name, value); !slices.Equal(got, want) {
		t.Errorf("With(%s, %q, %q) = %s, want %s", shown(l), name, value, shown(got), shown(want))
	}
}

func TestWith(t *testing.T) {
	abc := list("b", "1", "d", "2", "f", "3")
	long := strings.Repeat("x", 2000)
	for _, x := range []struct {
		l           []api.Label
		name, value string
		want        []api.Label
	}{
		{nil, "a", "1", list("a", "1")},
		{nil, "a", "", nil},
		// In front, between, behind.
		{abc, "a", "9", list("a", "9", "b", "1", "d", "2", "f", "3")},
		{abc, "B", "9", list("B", "9", "b", "1", "d", "2", "f", "3")},
		{abc, "c", "9", list("b", "1", "c", "9", "d", "2", "f", "3")},
		{abc, "bb", "9", list("b", "1", "bb", "9", "d", "2", "f", "3")},
		{abc, "e", "9", list("b", "1", "d", "2", "e", "9", "f", "3")},
		{abc, "g", "9", list("b", "1", "d", "2", "f", "3", "g", "9")},
		{abc, "ff", "9", list("b", "1", "d", "2", "f", "3", "ff", "9")},
		// In another one's place.
		{abc, "b", "9", list("b", "9", "d", "2", "f", "3")},
		{abc, "d", "9", list("b", "1", "d", "9", "f", "3")},
		{abc, "f", "9", list("b", "1", "d", "2", "f", "9")},
		{abc, "f", "3", abc},
		// Without a value.
		{abc, "b", "", list("d", "2", "f", "3")},
		{abc, "d", "", list("b", "1", "f", "3")},
		{abc, "f", "", list("b", "1", "d", "2")},
		{abc, "a", "", abc},
		{abc, "g", "", abc},
		{list("a", "1"), "a", "", nil},
		// A name that is there twice.
		{list("a", "1", "b", "2", "a", "3"), "a", "9", list("a", "9", "b", "2")},
		{list("a", "1", "b", "2", "a", "3"), "a", "", list("b", "2")},
		{list("a", "1", "a", "2", "a", "3"), "a", "9", list("a", "9")},
		{list("a", "1", "a", "2", "a", "3"), "a", "", nil},
		{list("b", "1", "b", "2"), "a", "9", list("a", "9", "b", "1", "b", "2")},
		{list("b", "1", "b", "2"), "c", "9", list("b", "1", "b", "2", "c", "9")},
		// Names that fall: the first greater one, wherever it stands.
		{list("c", "1", "b", "2", "a", "3"), "b", "9", list("b", "9", "c", "1", "a", "3")},
		{list("a", "1", "c", "2", "a", "3", "c", "4"), "b", "9", list("a", "1", "b", "9", "c", "2", "a", "3", "c", "4")},
		{list("c", "1", "b", "2", "a", "3"), "d", "9", list("c", "1", "b", "2", "a", "3", "d", "9")},
		{list("a", "1", "z", "2", "b", "3"), "c", "9", list("a", "1", "c", "9", "z", "2", "b", "3")},
		{list("b", "1", "a", "2", "c", "3"), "b", "9", list("a", "2", "b", "9", "c", "3")},
		// Names and values that are none.
		{list("", "1", "1", "", "\xff", long), "", "", list("1", "", "\xff", long)},
		{list("1", "", "\xff", long), "", "9", list("", "9", "1", "", "\xff", long)},
		{list("1", "", "\xff", long), "\xfe", long, list("1", "", "\xfe", long, "\xff", long)},
		{list("z", "1"), "\x80", "9", list("z", "1", "\x80", "9")},
		{list("\x80", "1"), "z", "9", list("z", "9", "\x80", "1")},
		{list("a", ""), "b", "9", list("a", "", "b", "9")},
		{list("a", ""), "b", "", list("a", "")},
	} {
		withs(t, x.l, x.name, x.value, x.want)
	}
	withs(t, many(64), "n0635", "v", append(many(64), list("n0635", "v")...))
	withs(t, many(999), "n500", "", append(many(500), many(999)[501:]...))
}

// keeps asks Keep for the labels of names, and Without for the others.
func keeps(t *testing.T, l []api.Label, names []string, kept, others []api.Label) {
	t.Helper()
	if got := labels.Keep(l, names...); !slices.Equal(got, kept) {
		t.Errorf("Keep(%s, %q) = %s, want %s", shown(l), names, shown(got), shown(kept))
	}
	if got := labels.Without(l, names...); !slices.Equal(got, others) {
		t.Errorf("Without(%s, %q) = %s, want %s", shown(l), names, shown(got), shown(others))
	}
}

func TestKeepAndWithout(t *testing.T) {
	abc := list("a", "1", "b", "2", "c", "3")
	falling := list("c", "1", "a", "2", "b", "3", "a", "4", "", "5", "a", "")
	for _, x := range []struct {
		l            []api.Label
		names        []string
		kept, others []api.Label
	}{
		{nil, nil, nil, nil},
		{nil, []string{"a", ""}, nil, nil},
		{abc, nil, nil, abc},
		{abc, []string{}, nil, abc},
		{abc, []string{"a"}, list("a", "1"), list("b", "2", "c", "3")},
		{abc, []string{"b"}, list("b", "2"), list("a", "1", "c", "3")},
		{abc, []string{"c"}, list("c", "3"), list("a", "1", "b", "2")},
		{abc, []string{"c", "a"}, list("a", "1", "c", "3"), list("b", "2")},
		{abc, []string{"c", "b", "a"}, abc, nil},
		{abc, []string{"b", "b", "b"}, list("b", "2"), list("a", "1", "c", "3")},
		{abc, []string{"d"}, nil, abc},
		{abc, []string{""}, nil, abc},
		{abc, []string{"A", "aa", "1", "", "c", "z"}, list("c", "3"), list("a", "1", "b", "2")},
		{falling, nil, nil, falling},
		{falling, []string{"a"}, list("a", "2", "a", "4", "a", ""), list("c", "1", "b", "3", "", "5")},
		{falling, []string{""}, list("", "5"), list("c", "1", "a", "2", "b", "3", "a", "4", "a", "")},
		{falling, []string{"b", "c", "b"}, list("c", "1", "b", "3"), list("a", "2", "a", "4", "", "5", "a", "")},
		{falling, []string{"a", "b", "c", ""}, falling, nil},
		{list("1", "x", "\xff", "y"), []string{"\xff"}, list("\xff", "y"), list("1", "x")},
	} {
		keeps(t, x.l, x.names, x.kept, x.others)
	}
	if got := labels.Keep(abc); len(got) != 0 {
		t.Errorf("Keep without names: %s", shown(got))
	}
	if got := labels.Without(abc); !slices.Equal(got, abc) {
		t.Errorf("Without without names: %s", shown(got))
	}
	if got := labels.Without(abc, "b", "a"); !slices.Equal(got, list("c", "3")) {
		t.Errorf("Without of two names: %s", shown(got))
	}
	var odd []string
	var kept, others []api.Label
	for i, x := range many(999) {
		if i%2 == 1 {
			odd, kept = append(odd, x.Name), append(kept, x)
		} else {
			others = append(others, x)
		}
	}
	slices.Reverse(odd)
	keeps(t, many(999), odd, kept, others)
}
