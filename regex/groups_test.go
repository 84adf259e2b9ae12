package regex_test

import (
	"strings"
	"testing"
)

// The whole text has to fit, not a part of it.
func TestTheWholeTextAlone(t *testing.T) {
	fits(t, "ab", "ab")
	fitsNot(t, "ab", "abc", "xab", "a", "b", "", "aab", "abb", "ab\n", "\nab", "ab\x00", "AB")
	fitsNot(t, "a*", "ab", "ba", "b")
	fitsNot(t, ".", "", "ab")
	fitsNot(t, "a|ab", "abc", "b", "aab")
	fits(t, "a|ab", "a", "ab")
	fits(t, "ab|a", "a", "ab")
	fits(t, "a*?", "", "a", "aaaa")
	fits(t, "a??", "", "a")
	fits(t, "a{1,3}?", "a", "aa", "aaa")
	groups(t, "(a*?)", "aaa", "aaa")
	groups(t, "(a??)", "a", "a")
	groups(t, "(a|ab|abc)", "abc", "abc")
	groups(t, "(a+?)(b+?)", "aabb", "aa", "bb")
}

// An earlier branch is preferred, even where a later one takes more.
func TestPreferredBranches(t *testing.T) {
	groups(t, "(a|ab)(b?)", "ab", "a", "b")
	groups(t, "(ab|a)(b?)", "ab", "ab", "")
	groups(t, "(|a)(a?)", "a", "", "a")
	groups(t, "(a|)(a?)", "a", "a", "")
	groups(t, "(a|b|ab)(.*)", "ab", "a", "b")
	groups(t, "(?:(a)|(a))", "a", "a", "")
	groups(t, "(?:(ab)|(a)(b))", "ab", "ab", "", "")
	groups(t, "(?:(a)(b)|(ab))", "ab", "a", "b", "")
	groups(t, "(?:(a)|(ab)|(abc))", "abc", "", "", "abc")
	groups(t, "(?:(a)x|(a)y|(a))", "ay", "", "a", "")
	groups(t, "((a)|(b)|(c))", "b", "b", "", "b", "")
	groups(t, "(a|ab)(c|bcd)(d*)", "abcd", "a", "bcd", "")
	groups(t, "(a|ab)(bcd|c)(d*)", "abcd", "a", "bcd", "")
	groups(t, "(ab|a)(bcd|c)(d*)", "abcd", "ab", "c", "d")
	groups(t, "(?:a|ab)(?:(c)|(bcd))(d*)", "abcd", "", "bcd", "")
	// The choice that comes first from left to right decides.
	groups(t, "(a|ab)(abc|c)?(.*)", "abcd", "a", "", "bcd")
	groups(t, "(?:(a|ab)(c|bcd)|(abc)(d))(e*)", "abcde", "a", "bcd", "", "", "e")
	groups(t, "(?:(.)|(..))+", "aaa", "a", "")
	groups(t, "(?:(..)|(.))+", "aaa", "aa", "a")
}

// One more repetition is preferred to none, but for a lazy count, of which none is.
func TestPreferredRepetitions(t *testing.T) {
	for _, x := range []struct {
		count string
		first string
	}{
		{"*", "aaaa"}, {"*?", ""}, {"+", "aaaa"}, {"+?", "a"}, {"?", "a"}, {"??", ""},
		{"{0}", ""}, {"{2}", "aa"}, {"{2}?", "aa"},
		{"{0,}", "aaaa"}, {"{0,}?", ""}, {"{1,}", "aaaa"}, {"{1,}?", "a"}, {"{2,}", "aaaa"}, {"{2,}?", "aa"},
		{"{0,2}", "aa"}, {"{0,2}?", ""}, {"{1,3}", "aaa"}, {"{1,3}?", "a"}, {"{3,9}", "aaaa"}, {"{3,9}?", "aaa"},
	} {
		rest := "aaaa"[len(x.first):]
		groups(t, "(a"+x.count+")(a*)", "aaaa", x.first, rest)
		groups(t, "(a"+x.count+")(a*?)", "aaaa", x.first, rest)
		groups(t, "((?:a)"+x.count+")(.*)", "aaaa", x.first, rest)
		groups(t, "((?:a|b)"+x.count+")([ab]*)", "aaaa", x.first, rest)
	}
	groups(t, "(a+?)(a*)", "aaa", "a", "aa")
	groups(t, "(a*?)(a+)(a*)", "aaa", "", "aaa", "")
	groups(t, "(a*?)(a+?)(a*)", "aaa", "", "a", "aa")
	groups(t, "(.*)(b)(.*)", "abcbd", "abc", "b", "d")
	groups(t, "(.*?)(b)(.*)", "abcbd", "a", "b", "cbd")
	groups(t, "(a??)(a??)(a??)(a*)", "aa", "", "", "", "aa")
	groups(t, "(a?)(a?)(a?)", "aa", "a", "a", "")
	groups(t, "(a??)(a?)(a??)", "aa", "", "a", "a")
	// Nested.
	groups(t, "((a{2})*)(a*)", "aaaaa", "aaaa", "aa", "a")
	groups(t, "((a{2})*?)(a*)", "aaaaa", "", "", "aaaaa")
	groups(t, "((a{1,2}?)*)(a*)", "aaa", "aaa", "a", "")
	groups(t, "((a{1,2})*)(a*)", "aaa", "aaa", "a", "")
	groups(t, "((a{1,2})*?)(b*)", "aaab", "aaa", "a", "b")
	groups(t, "((a{1,2}?){2})(a*)", "aaaa", "aa", "a", "aa")
	groups(t, "((a|ab)(b|bc)?)*(.*)", "ababc", "ab", "a", "b", "c")
	groups(t, "((?:ab)+?)((?:ab)*)", "ababab", "ab", "abab")
	groups(t, "(?:(a*)(b*?))*", "aabb", "", "b")
	groups(t, "(?:(a*?)(b+))*c", "abbc", "a", "bb")
}

// A group has what it matched last; an empty text, if it took no part.
func TestLastPartOfAGroup(t *testing.T) {
	groups(t, "(a|b)*", "abab", "b")
	groups(t, "(a|b)+?", "aba", "a")
	groups(t, "(.){3}", "abc", "c")
	groups(t, "(.){2,}", "abcd", "d")
	groups(t, "(.){1,3}", "abc", "c")
	groups(t, "(..?)*", "abc", "c")
	groups(t, "(?:(a)|(b))*", "abab", "a", "b")
	groups(t, "(?:(a)|(b))*", "abb", "a", "b")
	groups(t, "(?:(a)|b)*", "ab", "a")
	groups(t, "(?:(a)|b)*", "bb", "")
	groups(t, "((a)|b)*", "ab", "b", "a")
	groups(t, "((a)|(b)|(c))*", "abca", "a", "a", "b", "c")
	groups(t, "((a)|b){3}", "abb", "b", "a")
	groups(t, "(?:(a)|(b)){2,}", "aab", "a", "b")
	groups(t, "((a)(b)?)*", "aba", "a", "a", "b")
	groups(t, "((a)?(b)?)*", "ab", "ab", "a", "b")
	groups(t, "(((a)|b)|c)*", "abc", "c", "b", "a")
	groups(t, "(a(b)?)+", "aba", "a", "b")
	groups(t, "(a)*", "", "")
	groups(t, "(a)?b", "b", "")
	groups(t, "(a)|b", "b", "")
	groups(t, "(a)|(b)|(c)", "b", "", "b", "")
	groups(t, "(a){0}b", "b", "")
	groups(t, "((a)b){0,}", "", "", "")
	groups(t, "(a){0}(b)", "b", "", "b")
	groups(t, "(?:(a){0}|(b))+", "b", "", "b")
	// Numbered by where they open.
	groups(t, "((a)(b(c)))(d)", "abcd", "abc", "a", "bc", "c", "d")
	groups(t, "(?:(a)(?:(b)))(c)", "abc", "a", "b", "c")
	groups(t, "(((((a)))))", "a", "a", "a", "a", "a", "a")
	groups(t, "(a(b(c)?)?)?", "ab", "ab", "b", "")
	groups(t, "()(a)()", "a", "", "a", "")
	groups(t, strings.Repeat("(.)", 20), "abcdefghijklmnopqrst", strings.Split("abcdefghijklmnopqrst", "")...)
}

// An unbounded count is not repeated once more for the empty text; but what has to be there may be empty, and so may a repetition of a count that has a bound.
func TestRepetitionsOfTheEmptyText(t *testing.T) {
	// None is made for it.
	groups(t, "(a*)*", "", "")
	groups(t, "(a*)*", "aa", "aa")
	groups(t, "(a*)+", "aa", "aa")
	groups(t, "(a*){1,}", "aa", "aa")
	groups(t, "(a*)*?", "aa", "aa")
	groups(t, "(a?)*", "aaa", "a")
	groups(t, "(a?)+?", "aaa", "a")
	groups(t, "(a??)*", "aaa", "a")
	groups(t, "(a*?)*", "aaa", "a")
	groups(t, "(|a)*", "aaa", "a")
	groups(t, "(a|)*", "aaa", "a")
	groups(t, "((a*)*)*", "aa", "aa", "aa")
	groups(t, "((a*)|b)*", "aba", "a", "a")
	groups(t, "((a*)|b)*", "ab", "b", "a")
	groups(t, "(?:(a*)|(b))*", "ab", "a", "b")
	groups(t, "(()|a)*", "a", "a", "")
	groups(t, "(a*b*)*", "abab", "ab")
	groups(t, "(?:a*)*b", "aab")
	groups(t, "(?:(?:a*)*)*b", "aab")
	// In its place comes the next one that is preferred.
	groups(t, "(|a)*(a*)", "a", "a", "")
	groups(t, "(|a)*(a*)", "aaa", "a", "")
	groups(t, "(a??)*(a*)", "aa", "a", "")
	groups(t, "(|a|aa)*(a*)", "aa", "a", "")
	groups(t, "(|aa|a)*(a*)", "aaa", "a", "")
	groups(t, "(|a)*?(a*)", "aa", "", "aa")
	// The first one of a `+` may be empty, and the next one need not be.
	groups(t, "(|a)+(a*)", "a", "a", "")
	groups(t, "(|a)+(a*)", "aaa", "a", "")
	groups(t, "(|a){1,}(a*)", "a", "a", "")
	groups(t, "(a??)+(a*)", "aa", "a", "")
	groups(t, "(|a)+?(a*)", "aa", "", "aa")
	groups(t, "(|a)+?(b?)", "a", "a", "")
	groups(t, "(a|b?)+(.*)", "ba", "a", "")
	groups(t, "((|a)+)(a*)", "aa", "aa", "a", "")
	groups(t, "((|a)+)+(a*)", "aa", "aa", "a", "")
	groups(t, "()+", "", "")
	groups(t, "()*", "", "")
	groups(t, "(a*)+", "", "")
	groups(t, "(?:)+a", "a")
	groups(t, "(?:(?:)*)+a", "a")
	// What has to be there may be empty, and is what the group had last.
	groups(t, "(a?){3}", "a", "")
	groups(t, "(a?){3}", "aaa", "a")
	groups(t, "(a?){2,}", "a", "")
	groups(t, "(a?){2,}", "aa", "a")
	groups(t, "(a?){2,}", "aaa", "a")
	groups(t, "(a*){2}", "aaa", "")
	groups(t, "(a*?){2}", "aaa", "aaa")
	groups(t, "(a*){2,}", "aaa", "")
	// A repetition of a count with a bound too.
	groups(t, "(a?){0,3}", "a", "")
	groups(t, "(a?){1,3}", "a", "")
	groups(t, "(a?){0,3}?", "a", "a")
	groups(t, "(a?)?", "", "")
	groups(t, "(a*){0,2}", "aa", "")
	groups(t, "(?:(a)|b?){0,2}", "a", "a")
	groups(t, "((a)|b?){0,2}", "a", "", "a")
}

// What an empty repetition matched, and what one that was not made did not.
func TestGroupsOfEmptyRepetitions(t *testing.T) {
	// The group of the round before is kept where the count is repeated no more, and is not where it has to be.
	groups(t, "(?:(a?)*c)*", "acc", "a")
	groups(t, "(?:(a?)+c)*", "acc", "")
	groups(t, "(?:(a?){1,}c)*", "acc", "")
	groups(t, "(?:(a?){2}c)*", "aacc", "")
	groups(t, "(?:(a?){0,2}c)*", "aacc", "")
	groups(t, "(?:(a?){0,2}?c)*", "aacc", "a")
	groups(t, "(?:(a?)+?c)*", "acc", "")
	groups(t, "(?:(a?)*?c)*", "acc", "a")
	// An empty first repetition stands ahead of one that is less preferred.
	groups(t, "(?:(?:(a?)|b)+c)*", "acbc", "")
	groups(t, "(?:(?:b|(a?))+c)*", "acbc", "a")
	groups(t, "(?:(?:(a?)|b)*c)*", "acbc", "a")
	groups(t, "(?:(?:(a?)|b){1,}c)*", "acbc", "")
	groups(t, "(?:(?:(a?)|b)+?c)*", "acbc", "")
	groups(t, "(?:(?:(?:(a?)|b)+|d)+c)*", "acdc", "")
	groups(t, "(?:(?:(?:d|(a?)|b)+)+c)*", "acdc", "a")
	groups(t, "(?:(?:(?:(a?)|(b??))+)+c)*", "acbc", "", "b")
	groups(t, "(?:(?:(a)|())+c)*", "acc", "a", "")
	groups(t, "(?:(?:(a?)(b?))+c)*", "acbc", "", "b")
	groups(t, "(?:(?:(a?)^|b)+)*", "b", "")
	groups(t, "(?:(?:(a?)$|b|a)+)*", "ab", "")
	groups(t, "(?:(?:c(a?)$|b|c)+)*", "bca", "a")
	// What an empty one has in it.
	groups(t, "(?:(?:(a?)?)+c)*", "acc", "")
	groups(t, "(?:(?:(a?)??)+c)*", "acc", "a")
	groups(t, "(?:(?:(a?)*)+c)*", "acc", "a")
	groups(t, "(?:(?:(a?)*?)+c)*", "acc", "a")
	groups(t, "(?:(?:(a?)+)+c)*", "acc", "")
	groups(t, "(?:(?:(a?)+?)+c)*", "acc", "")
	groups(t, "(?:(?:(a?){0,2})+c)*", "acc", "")
	groups(t, "(?:(?:(a?){0,2}?)+c)*", "acc", "a")
	groups(t, "(?:(?:(a?){2})+c)*", "acc", "")
	groups(t, "(?:(?:(a?){1,2}?)+c)*", "acc", "")
	groups(t, "(?:(?:(a?){1,})+c)*", "acc", "")
	groups(t, "(?:(?:(a?){0,})+c)*", "acc", "a")
	groups(t, "(?:(?:(a?){0,1})+c)*", "acc", "")
	groups(t, "(?:(?:(a)?)+c)*", "acc", "a")
	groups(t, "(?:(?:(a){0,2})+c)*", "acc", "a")
	groups(t, "(?:(?:(a)?(b?))+c)*", "acbcc", "a", "")
	groups(t, "(?:(?:(a?)|(b?))+c)*", "acbcc", "", "b")
	groups(t, "(?:(?:((a?)(b?)))+c)*", "abcc", "", "", "")
	groups(t, "(?:(?:(a?)$|(b?))+c?)*", "bca", "a", "b")
	groups(t, "(?:(?:(a?)^|(b?))+c?)*", "bcb", "", "b")
	// A round begins anew before what is lazy takes more.
	groups(t, "(b?a??)*", "ba", "a")
	groups(t, "(b?a?)*", "ba", "ba")
	groups(t, "(b?(?:a??)*?)*", "ba", "a")
	groups(t, "(b?(?:a??)+?)*", "ba", "a")
	groups(t, "(b(?:a??)+?)*", "ba", "ba")
	groups(t, "(b?(a*?))*", "baa", "a", "a")
	groups(t, "(b?(a{0,2}?))*", "baa", "a", "a")
	groups(t, "((b?a??)*?c??)*", "bac", "c", "a")
	groups(t, "(?:(b?)(a??)(c??))*", "bac", "", "", "c")
}

// Groups and Match do not hang on what was asked before.
func TestAskedAgainAndAgain(t *testing.T) {
	const pattern = "(a|ab)(c|bcd)?(d*)"
	r := compiled(t, pattern)
	for range 3 {
		hasGroups(t, r, pattern, "abcd", "a", "bcd", "")
		hasNone(t, r, pattern, "abcdx")
		hasGroups(t, r, pattern, "a", "a", "", "")
		hasNone(t, r, pattern, "")
		hasGroups(t, r, pattern, "abddd", "ab", "", "ddd")
		hasGroups(t, r, pattern, "a"+strings.Repeat("d", 1000), "a", "", strings.Repeat("d", 1000))
	}
	other := compiled(t, "(x)")
	hasGroups(t, other, "(x)", "x", "x")
	hasGroups(t, r, pattern, "ac", "a", "c", "")
	hasNone(t, other, "(x)", "ac")
}
