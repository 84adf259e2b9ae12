package regex_test

import (
	"regexp"
	"strings"
	"testing"

	"barograph/api"
	"barograph/regex"
)

// loops is a pattern of few bytes with many counts, so that many ways lead to a match.
func (d *dice) loops(depth int) string {
	s := ""
	for range 1 + d.below(3) {
		if d.below(6) == 0 {
			s += "|"
		}
		atom := d.oneOf("a", "b", "a", "b", ".", "^", "$", "()", "[ab]", "[^a]")
		if depth > 0 && d.below(12) < 5 {
			atom = d.oneOf("(", "(", "(?:") + d.loops(depth-1) + ")"
		}
		s += atom
		if d.below(5) < 3 {
			s += d.oneOf("*", "*", "*", "+", "+", "+", "?", "?", "{0}", "{2}", "{0,}", "{1,}", "{2,}", "{0,2}", "{1,2}", "{1,3}") + d.oneOf("", "?")
		}
	}
	return s
}

// drawnOnes is a pattern of at most so many bytes, and its tree.
func (d *dice) drawnOnes(most int) (string, tree) {
	for {
		pattern := d.loops(4)
		if len(pattern) > most {
			continue
		}
		all, ok := wordsOf(pattern)
		if x := treeOf(all); ok && isPattern(all) && statesOf(x) < 1000 {
			return pattern, x
		}
	}
}

// Match and Groups answer what a search through all matches finds, in the order in which they are preferred.
func TestDrawnPatternsAgainstAPlainSearch(t *testing.T) {
	for seed := range dice(8) {
		t.Run("", func(t *testing.T) {
			t.Parallel()
			d := seed + 1
			found, missed, unknown := 0, 0, 0
			for range 9000 {
				pattern, x := d.drawnOnes(40)
				r := compiled(t, pattern)
				if r.States() != statesOf(x)+1 {
					t.Errorf("%q has %d states, want %d", pattern, r.States(), statesOf(x)+1)
				}
				for range 6 {
					switch known, ok := searches(t, r, pattern, x, d.text(6, "ab")); {
					case !known:
						unknown++
					case ok:
						found++
					default:
						missed++
					}
				}
				if t.Failed() {
					return
				}
			}
			if found < 10000 || missed < 10000 || unknown > 1000 {
				t.Errorf("%d texts fit, %d do not, %d are not known", found, missed, unknown)
			}
		})
	}
}

// rounds is a pattern whose groups may have a part of an earlier round.
func (d *dice) rounds() string {
	counts := func() string { return d.oneOf("+", "+", "+", "*", "?", "{1,}", "{2,}", "{0,2}") + d.oneOf("", "?") }
	body := d.loops(2)
	if d.below(2) == 0 {
		body = "(?:" + body + ")" + counts() + d.oneOf("", "|b", "b??", "(b?)")
	}
	return "(?:" + d.oneOf("", "c??", "(b??)") + "(?:" + body + ")" + counts() + d.oneOf("c", "c?", "c??") + ")" + d.oneOf("*", "*", "+", "*?")
}

// In each round, a group has what it had before or what it has now, the empty text too.
func TestDrawnRoundsAgainstAPlainSearch(t *testing.T) {
	for seed := range dice(8) {
		t.Run("", func(t *testing.T) {
			t.Parallel()
			d := seed + 51
			found := 0
			for range 2000 {
				pattern := d.rounds()
				all, _ := wordsOf(pattern)
				x := treeOf(all)
				if len(pattern) > 60 || statesOf(x) > 400 {
					continue
				}
				r := compiled(t, pattern)
				for range 8 {
					text := d.oneOf("ac", "bc", "abc", "c", "acb") + d.text(5, "abc")
					if known, ok := searches(t, r, pattern, x, text); known && ok {
						found++
					}
				}
				if t.Failed() {
					return
				}
			}
			if found < 2000 {
				t.Errorf("only %d texts fit", found)
			}
		})
	}
}

// All patterns of few bytes, on all short texts.
func TestAllSmallPatterns(t *testing.T) {
	texts := []string{"", "a", "b", "aa", "ab", "ba", "bb", "aaa", "aab", "aba", "abb", "baa"}
	for _, x := range []struct {
		bytes string
		most  int
	}{{"ab|()*?", 6}, {"a()+?|", 7}, {"a^$()+*", 6}} {
		t.Run(x.bytes, func(t *testing.T) {
			t.Parallel()
			var grow func(pattern string, left int)
			grow = func(pattern string, left int) {
				if t.Failed() {
					return
				}
				r, errno, at := regex.Compile(pattern)
				if errno == api.OK {
					all, _ := wordsOf(pattern)
					for _, text := range texts {
						searches(t, r, pattern, treeOf(all), text)
					}
				}
				if left == 0 || errno != api.OK && at < len(pattern) {
					return
				}
				for i := range len(x.bytes) {
					grow(pattern+x.bytes[i:i+1], left-1)
				}
			}
			grow("", x.most)
		})
	}
}

// Patterns of all kinds, with texts of the bytes that they name.
func TestDrawnPatternsOfAllKinds(t *testing.T) {
	d := dice(3)
	found := 0
	for range 6000 {
		pattern := d.drawnPattern(2)
		x, errno, _ := compileOf(pattern)
		if errno != api.OK || statesOf(x) > 200 {
			continue
		}
		r := compiled(t, pattern)
		for range 12 {
			if _, ok := searches(t, r, pattern, x, d.text(5, "abcz-,1]\n \x00\xff")); ok {
				found++
			}
		}
		if t.Failed() {
			return
		}
	}
	if found < 3000 {
		t.Errorf("only %d texts fit", found)
	}
}

// isOthers tells of a pattern whether the library reads it as something else: it knows no zeros ahead of a number, and reads code points.
var isOthers = regexp.MustCompile(`[{,]0[0-9]|[^\x00-\x7f]`)

// What fits a pattern is told by the library's patterns too, for those that both take and texts of ASCII.
func TestDrawnPatternsAgainstTheLibrary(t *testing.T) {
	d := dice(23)
	both, found := 0, 0
	for range 20000 {
		pattern := d.drawnPattern(3)
		if d.below(2) == 0 {
			pattern, _ = d.drawnOnes(60)
		}
		r, errno, _ := regex.Compile(pattern)
		other, err := regexp.Compile(`^(?s:` + pattern + `)$`)
		if errno != api.OK || err != nil || isOthers.MatchString(pattern) {
			continue
		}
		both++
		for range 6 {
			text := d.text(7, "abacz-,1 \n")
			want := other.MatchString(text)
			if got := r.Match(text); got != want {
				t.Errorf("%q on %q: Match = %v, want %v", pattern, text, got, want)
			}
			if _, got := r.Groups(text); got != want {
				t.Errorf("%q on %q: Groups = %v, want %v", pattern, text, got, want)
			}
			if want {
				found++
			}
		}
		if t.Failed() {
			return
		}
	}
	if both < 8000 || found < 4000 {
		t.Errorf("only %d patterns are both's, and %d texts fit", both, found)
	}
}

// `p|q` matches what p matches and what q matches.
func TestBranchesMatchWhatEachMatches(t *testing.T) {
	d := dice(29)
	fit := 0
	for range 8000 {
		p, _ := d.drawnOnes(25)
		q, _ := d.drawnOnes(25)
		one, other, both := compiled(t, p), compiled(t, q), compiled(t, p+"|"+q)
		for range 5 {
			text := d.text(6, "ab")
			want := one.Match(text) || other.Match(text)
			if got := both.Match(text); got != want {
				t.Fatalf("%q on %q: %v, want %v", p+"|"+q, text, got, want)
			}
			groups, ok := both.Groups(text)
			if ok != want {
				t.Fatalf("%q on %q: Groups = %q, %v", p+"|"+q, text, groups, ok)
			}
			if !ok {
				continue
			}
			fit++
			// The groups are those of p, if it matches.
			first, isFirst := one.Groups(text)
			if isFirst && strings.Join(first, ",") != strings.Join(groups[:one.Many()+1], ",") {
				t.Fatalf("%q on %q: %q, but %q of %q", p+"|"+q, text, groups, first, p)
			}
			last, _ := other.Groups(text)
			if !isFirst && strings.Join(last[1:], ",") != strings.Join(groups[one.Many()+1:], ",") {
				t.Fatalf("%q on %q: %q, but %q of %q", p+"|"+q, text, groups, last, q)
			}
		}
	}
	if fit < 5000 {
		t.Errorf("only %d texts fit", fit)
	}
}

// The groups of a match are parts of the text, and their numbers are as many as the pattern has.
func TestGroupsArePartsOfTheText(t *testing.T) {
	d := dice(31)
	for range 5000 {
		pattern, _ := d.drawnOnes(60)
		r := compiled(t, pattern)
		text := d.text(30, "aab")
		all, ok := r.Groups(text)
		if ok != r.Match(text) || ok != (len(all) > 0) {
			t.Fatalf("%q on %q: Groups = %q, %v, Match = %v", pattern, text, all, ok, r.Match(text))
		}
		if !ok {
			continue
		}
		if len(all) != r.Many()+1 || all[0] != text {
			t.Fatalf("%q on %q: %q", pattern, text, all)
		}
		for _, part := range all {
			if !strings.Contains(text, part) {
				t.Fatalf("%q on %q: %q", pattern, text, all)
			}
		}
	}
}
