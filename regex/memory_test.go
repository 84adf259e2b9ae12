package regex_test

import (
	"slices"
	"strings"
	"sync"
	"testing"

	"barograph/regex"
)

// What comes out is its owner's: a change of it changes nothing else, nor does one behind its end.
func TestGroupsAreTheirOwners(t *testing.T) {
	for _, x := range []struct {
		pattern, text string
		want          []string
	}{
		{"(a|b)*(c)", "abc", []string{"abc", "b", "c"}},
		{"a*", "aa", []string{"aa"}},
		{"", "", []string{""}},
		{"(?:(a?)|b)+(x)?", "ab", []string{"ab", "a", ""}},
	} {
		r := compiled(t, x.pattern)
		first, _ := r.Groups(x.text)
		second, _ := r.Groups(x.text)
		other, _ := compiled(t, x.pattern).Groups(x.text)
		all := second[:cap(second)]
		for i := range all {
			all[i] = "scribbled"
		}
		if _, third := append(first, "more"), append(other, "others"); third[len(x.want)] != "others" {
			t.Errorf("%q: what is appended to two lists shares memory", x.pattern)
		}
		again, _ := r.Groups(x.text)
		for _, l := range [][]string{first, other, again} {
			if !slices.Equal(l, x.want) {
				t.Errorf("%q on %q: %q, want %q", x.pattern, x.text, l, x.want)
			}
		}
	}
}

// Patterns are independent of each other, also when they are asked at the same time.
func TestPatternsAreIndependent(t *testing.T) {
	r, _, _ := regex.Compile("((a)|b)*c?")
	other, _, _ := regex.Compile("((a)|b)*?(c?)")
	var wait sync.WaitGroup
	for i := range 8 {
		wait.Go(func() {
			text := strings.Repeat("ab", 1+i)
			for range 200 {
				if got, ok := r.Groups(text); !ok || !slices.Equal(got, []string{text, "b", "a"}) {
					t.Errorf("%q: %q, %v", text, got, ok)
				}
				if got, ok := other.Groups(text + "c"); !ok || !slices.Equal(got, []string{text + "c", "b", "a", "c"}) {
					t.Errorf("%q: %q, %v", text+"c", got, ok)
				}
				if r.Match(text+"d") || other.Match(text+"cc") {
					t.Errorf("%q: more fits than does", text)
				}
			}
		})
	}
	wait.Wait()
}
