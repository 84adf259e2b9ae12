package match_test

import (
	"bytes"
	"slices"
	"strings"
	"sync"
	"testing"

	"barograph/api"
	"barograph/match"
)

// roomy is a copy of a list with matchers behind its end, in the same memory.
func roomy(l []api.Matcher) []api.Matcher {
	return append(slices.Clone(l), behind()...)[:len(l)]
}

func behind() []api.Matcher { return list(eq("a", "behind"), one(9, "", "("), ne("zz", "")) }

// hasStayed tells whether a roomy list is as it was, and what is behind it too.
func hasStayed(l, want []api.Matcher) bool {
	return slices.Equal(l, want) && slices.Equal(l[len(l):len(l)+3], behind())
}

// scribble changes a list, and what there is room for behind it.
func scribble(l []api.Matcher) {
	l = l[:cap(l)]
	for i := range l {
		l[i] = one(7, "scribbled", "x")
	}
}

func overwrite(b []byte) {
	b = b[:cap(b)]
	for i := range b {
		b[i] = 0xee
	}
}

// What is handed in stays as it is, and what lies behind it is neither changed nor read.
func TestListsThatAreHandedInStay(t *testing.T) {
	for _, want := range [][]api.Matcher{nil, list(eq("b", "1")), list(nr("b", "x+"), eq("a", "1"), nr("b", "x+"), re("c", "")), list(eq("a", "1"), re("a", "("), one(5, "", "")), many(32), many(33)} {
		l := roomy(want)
		fit := set("b", "1", "a", "1")
		labels := append(slices.Clone(fit), set("c", "behind", "a", "2")...)[:2]
		if got := match.All(l, labels); got != allOf(want, fit) {
			t.Errorf("All(%s) = %v", shown(want...), got)
		}
		if !slices.Equal(labels[:4], set("b", "1", "a", "1", "c", "behind", "a", "2")) {
			t.Error("All has changed the set")
		}
		got, errno := match.Encode(l)
		if b, e := encodeOf(want); e != errno || !bytes.Equal(got, b) {
			t.Errorf("Encode(%s) = %s, %v", shown(want...), bytesShown(got), errno)
		}
		if !hasStayed(l, want) {
			t.Errorf("%s has become %s", shown(want...), shown(l[:len(l)+3]...))
		}
	}
}

// What comes out of Encode is its owner's: neither another answer nor the list hangs on it.
func TestBytesOfEncodeAreTheirOwners(t *testing.T) {
	for _, want := range [][]api.Matcher{nil, list(eq("a", "x")), list(re("a", "x.*"), ne("b", "\xff")), many(32)} {
		l := roomy(want)
		first, _ := match.Encode(l)
		second, _ := match.Encode(l)
		overwrite(second)
		if !bytes.Equal(first, raw(want)) || !hasStayed(l, want) {
			t.Errorf("what Encode answers for %s shares memory", shown(want...))
		}
		if one, other := append(first, "one"...), append(second, "other"...); string(one[len(first):]) != "one" || string(other[len(second):]) != "other" {
			t.Errorf("what is appended to two answers for %s shares memory", shown(want...))
		}
		scribble(l)
		if !bytes.Equal(first, raw(want)) {
			t.Errorf("what Encode answers for %s shares memory with the list", shown(want...))
		}
		encodes(t, want, raw(want))
	}
}

// What comes out of Decode is its owner's: neither another answer nor the bytes hang on it.
func TestListsOfDecodeAreTheirOwners(t *testing.T) {
	for _, want := range [][]api.Matcher{nil, list(eq("a", "x")), list(re("abc", "x.*"), ne("b", "\xff"), nr("a", "")), many(32)} {
		all := append(raw(want), "behind"...)
		b := all[:len(raw(want))]
		first, n, _ := match.Decode(b)
		second, _, _ := match.Decode(b)
		third, _, _ := match.Decode(all)
		if !bytes.Equal(all, append(raw(want), "behind"...)) {
			t.Error("Decode has changed what it was given")
		}
		scribble(second)
		overwrite(all)
		if n != len(b) || !slices.Equal(first, want) || !slices.Equal(third, want) {
			t.Errorf("what Decode answers for %s shares memory", shown(want...))
		}
		if one, other := append(first, eq("a", "one")), append(third, eq("a", "other")); one[len(want)].Value != "one" || other[len(want)].Value != "other" {
			t.Errorf("what is appended to two answers for %s shares memory", shown(want...))
		}
		decodes(t, raw(want), want, n)
	}
}

// Nothing is kept: what a call says hangs on what it is given alone, whatever other calls are made at the same time.
func TestCallsAtTheSameTime(t *testing.T) {
	var wait sync.WaitGroup
	for i := range 8 {
		wait.Go(func() {
			x := strings.Repeat("x", i)
			l := list(eq("a", x), re("a", "x{"+string([]byte{'0' + byte(i)})+"}"), ne("a", x+"x"), nr("a", x+"x+"))
			for range 300 {
				if !match.All(l, set("a", x)) || match.All(l, set("a", x+"x")) {
					t.Errorf("%s on %q", shown(l...), x)
				}
				b, errno := match.Encode(l)
				if got, n, e := match.Decode(b); errno != api.OK || e != api.OK || n != len(b) || !slices.Equal(got, l) {
					t.Errorf("%s is read as %s", shown(l...), shown(got...))
				}
				if match.Print(l[3]) != `a!~"`+x+`x+"` || match.Empty(l[0]) != (i == 0) || match.Check(re("a", x+"(")) != api.ErrRegexForm {
					t.Errorf("%s", shown(l...))
				}
			}
		})
	}
	wait.Wait()
}
