package regex_test

import (
	"slices"
	"strings"
	"testing"

	"barograph/api"
	"barograph/regex"
)

// This file has what the other tests ask the package with.

// dice are numbers without a pattern, the same ones at every run.
type dice uint64

func (d *dice) number() uint64 {
	*d = *d*6364136223846793005 + 1442695040888963407
	return uint64(*d)>>33 ^ uint64(*d)<<31
}

func (d *dice) below(n int) int { return int(d.number() >> 3 % uint64(n)) }

func (d *dice) oneOf(s ...string) string { return s[d.below(len(s))] }

// text is one of so many bytes at most, out of those that are handed in.
func (d *dice) text(most int, bytes string) string {
	var b []byte
	for range d.below(most + 1) {
		b = append(b, bytes[d.below(len(bytes))])
	}
	return string(b)
}

// allBytes are the 256 of them.
func allBytes() string {
	b := make([]byte, 256)
	for c := range b {
		b[c] = byte(c)
	}
	return string(b)
}

// byteText is the text of one byte.
func byteText(c byte) string { return string([]byte{c}) }

func short(s string) string {
	if len(s) > 100 {
		s = s[:100] + ".."
	}
	return s
}

// compiled asks Compile for a pattern.
func compiled(t *testing.T, pattern string) *regex.Regex {
	t.Helper()
	r, errno, at := regex.Compile(pattern)
	if r == nil || errno != api.OK || at != 0 {
		t.Fatalf("Compile(%q) = %v, %v, %d, want a pattern, OK and 0", short(pattern), r != nil, errno, at)
	}
	return r
}

// compileFails asks Compile for an error and an offset, and nothing beside them.
func compileFails(t *testing.T, pattern string, want api.Errno, offset int) {
	t.Helper()
	if r, errno, at := regex.Compile(pattern); r != nil || errno != want || at != offset {
		t.Errorf("Compile(%q) = %v, %v, %d, want nothing, %v and %d", short(pattern), r != nil, errno, at, want, offset)
	}
}

// breaks asks Compile for the offset at which a pattern does not have the form.
func breaks(t *testing.T, pattern string, offset int) {
	t.Helper()
	compileFails(t, pattern, api.ErrRegexForm, offset)
}

// isTooLong asks Compile for its other error.
func isTooLong(t *testing.T, pattern string) {
	t.Helper()
	compileFails(t, pattern, api.ErrRegexLong, 0)
}

// compilesAsTheChapter holds Compile of any pattern against what the chapter says of it.
func compilesAsTheChapter(t *testing.T, pattern string) {
	t.Helper()
	x, errno, at := compileOf(pattern)
	if errno != api.OK {
		compileFails(t, pattern, errno, at)
		return
	}
	r := compiled(t, pattern)
	if r.Many() != groupsIn(x) || r.States() != statesOf(x)+1 {
		t.Errorf("%q has %d groups and %d states, want %d and %d", pattern, r.Many(), r.States(), groupsIn(x), statesOf(x)+1)
	}
}

// hasGroups asks Groups, and Match, for a match; the groups are given without the whole text.
func hasGroups(t *testing.T, r *regex.Regex, pattern, text string, groups ...string) {
	t.Helper()
	want := append([]string{text}, groups...)
	got, ok := r.Groups(text)
	if !ok || !slices.Equal(got, want) || !r.Match(text) || r.Many() != len(groups) {
		t.Errorf("%q on %q: Groups = %q, %v, Match = %v, Many = %d, want %q", short(pattern), short(text), short(strings.Join(got, "|")), ok, r.Match(text), r.Many(), short(strings.Join(want, "|")))
	}
}

// hasNone asks Groups, and Match, for no match.
func hasNone(t *testing.T, r *regex.Regex, pattern, text string) {
	t.Helper()
	if got, ok := r.Groups(text); ok || got != nil || r.Match(text) {
		t.Errorf("%q on %q: Groups = %q, %v, Match = %v, want none", short(pattern), short(text), short(strings.Join(got, "|")), ok, r.Match(text))
	}
}

// fits asks a pattern without groups for a match of each text.
func fits(t *testing.T, pattern string, texts ...string) {
	t.Helper()
	r := compiled(t, pattern)
	for _, text := range texts {
		hasGroups(t, r, pattern, text)
	}
}

// fitsNot asks a pattern for no match of each text.
func fitsNot(t *testing.T, pattern string, texts ...string) {
	t.Helper()
	r := compiled(t, pattern)
	for _, text := range texts {
		hasNone(t, r, pattern, text)
	}
}

// groups asks a pattern for the groups of a text.
func groups(t *testing.T, pattern, text string, want ...string) {
	t.Helper()
	hasGroups(t, compiled(t, pattern), pattern, text, want...)
}

// takes asks a pattern without groups which texts of one byte fit: these, and no others.
func takes(t *testing.T, pattern, want string) {
	t.Helper()
	r := compiled(t, pattern)
	for c := range 256 {
		text := byteText(byte(c))
		if strings.Contains(want, text) {
			hasGroups(t, r, pattern, text)
		} else {
			hasNone(t, r, pattern, text)
		}
	}
	hasNone(t, r, pattern, "")
	for _, c := range "a1_ \x00" {
		hasNone(t, r, pattern, string(c)+want)
		hasNone(t, r, pattern, want+string(c))
	}
}

// searches holds Match and Groups against a plain search, and tells whether that has come to its end, and whether the text fits.
func searches(t *testing.T, r *regex.Regex, pattern string, x tree, text string) (known, ok bool) {
	t.Helper()
	want, ok, known := groupsOf(x, text, 20000)
	switch {
	case !known:
	case ok:
		hasGroups(t, r, pattern, text, want[1:]...)
	default:
		hasNone(t, r, pattern, text)
	}
	return known, ok
}
