package regex_test

import (
	"strings"
	"testing"
)

// around is an inner pattern with an opening and a closing around it, so many times.
func around(n int, open, inner, end string) string {
	return strings.Repeat(open, n) + inner + strings.Repeat(end, n)
}

// A search through all ways would not end on these texts: there are more of them than anyone could go, while the time is to be proportional to the number of states times the length.
func TestLongTextsForManyWays(t *testing.T) {
	const length = 20000
	a := strings.Repeat("a", length)
	for _, pattern := range []string{
		"a*a*a*a*a*", "(?:a*)*", "(?:a*)+", "(?:a+)+", "(?:a+)*", "(?:a?)*", "(?:a|a)*", "(?:a|aa)*", "(?:a|a?)+", "(?:a|b|ab)*", "(?:a*?)*?", "(?:a+?)+?", "(?:.*.*)*", "(?:a*|b*)*", "(?:a{1,3}){1,}", "(?:a{0,3})*", "(?:(?:a*)*)*", ".*.*.*.*.*.*", "[ab]*a[ab]*",
		"(?:a|aa|aaa|aaaa){2,}", "(?:a??){2,}", "(?:^*a)*", "(?:a|$)*", "(?:|a)+", "(?:|a|)*?",
		around(40, "(?:", "a?", ")*"), around(40, "(?:", "a?", ")+"), around(40, "(?:", "a??", ")*?"), around(40, "(?:", "a??", ")+?"), around(40, "(?:a??", "a??", ")+?"), around(30, "(?:", "a", "|a)*"),
	} {
		fits(t, pattern, a)
		fits(t, "(?:"+pattern+")c", a+"c")
		fitsNot(t, "(?:"+pattern+")c", a)
	}
}

func TestLongTextsWithGroups(t *testing.T) {
	const length = 20000
	a := strings.Repeat("a", length)
	groups(t, "(a*)*", a, a)
	groups(t, "(a*?)*", a, "a")
	groups(t, "(a|b)*", a+"b", "b")
	groups(t, "(?:(a)|(b))*", a+"b", "a", "b")
	groups(t, "(?:(a)|(b))*", "b"+a, "a", "b")
	groups(t, "(.*)(.*)(.*)(.*)", a, a, "", "", "")
	groups(t, "(.*?)(.*?)(.*?)(.*)", a, "", "", "", a)
	groups(t, "(.*)b(.*)", a+"b"+a, a, a)
	groups(t, "(a*)(a{2})(a*?)", a, a[2:], "aa", "")
	groups(t, "(a{2})*(a*)", a+"a", "aa", "a")
	groups(t, "((a)|(aa))*", a, "a", "a", "")
	groups(t, "((aa)|(a))*", a+"a", "a", "aa", "a")
	groups(t, "((a?)*)*b?", a, a, "a")
	groups(t, "(?:(a?)+b)*", strings.Repeat("ab", length), "a")
	groups(t, "(?:(a?)+b)*", strings.Repeat("ab", length)+"b", "")
	groups(t, "(?:(a?)*b)*", strings.Repeat("ab", length)+"b", "a")
	all := make([]string, 40)
	for i := range all {
		all[i] = a
	}
	groups(t, around(40, "(", "a*", ")"), a, all...)
	groups(t, around(39, "(", "(a*)", ")*"), a, all...)
	groups(t, around(39, "(", "(a*)", ")+"), a, all...)
	// One round of each but the innermost one takes all.
	all[len(all)-1] = "a"
	groups(t, around(40, "(", "a", ")+"), a, all...)
	groups(t, around(40, "(", "a??", ")+"), a, all...)
	groups(t, around(40, "(", "a", ")*"), a, all...)
	// As the outermost one that is not lazy begins anew before the inner ones do.
	for i := range all {
		all[i] = "a"
	}
	groups(t, around(40, "(", "a", ")*?"), a, all...)
	groups(t, around(40, "(", "a??", ")+?"), a, all...)
}

func TestManyStates(t *testing.T) {
	a := strings.Repeat("a", 20000)
	for _, n := range []int{1, 5, 40, 120} {
		fitsTimes(t, strings.Repeat("a?", n)+strings.Repeat("a", n), 2*n+2, upTo(n, 2*n)...)
	}
	fits(t, "(?:a?){300}a{300}", a[:300], a[:450], a[:600])
	fitsNot(t, "(?:a?){300}a{300}", a[:299], a[:601], a)
	fits(t, "(?:a{0,20}){20}a*", a[:1000])
	fits(t, "(?:a*){200}", a[:1000], "")
	fitsNot(t, "(?:a*){200}b", a[:1000])
	fits(t, "(?:a|a?){150}.*", a)
	fits(t, ".*a.{900}", a[:901], a)
	fits(t, ".*b.{900}", a+"b"+a[:900])
	fitsNot(t, ".*b.{900}", a, a+"b"+a[:899], a+"b"+a[:901])
	fits(t, "(?:a{300}|a{200}|a{400})*", a, a[:500], a[:700])
	fitsNot(t, "(?:a{300}|a{200}|a{400})*", a[:100], a[:350])
}

func TestLongTexts(t *testing.T) {
	text := strings.Repeat(allBytes(), 4000)
	fits(t, ".*", text)
	fits(t, `[\d\D]*`+"\xff", text)
	fitsNot(t, ".*\xfe", text)
	fitsNot(t, "[^\xff]*", text)
	r := compiled(t, "(?:(\x00)|[^\x00])*?")
	hasGroups(t, r, "(?:(\x00)|[^\x00])*?", text, "\x00")
}
