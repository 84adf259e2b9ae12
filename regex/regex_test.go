package regex_test

import (
	"strings"
	"testing"

	"barograph/api"
)

func TestFirstExample(t *testing.T) {
	const pattern = "a(b|c)*d"
	r := compiled(t, pattern)
	hasGroups(t, r, pattern, "ad", "")
	hasGroups(t, r, pattern, "abcbd", "b")
	hasNone(t, r, pattern, "abc")
	hasNone(t, r, pattern, "xad")
	hasGroups(t, r, pattern, "abcd", "c")
	if r.States() != 11 {
		t.Errorf("%q has %d states", pattern, r.States())
	}
}

func TestSecondExample(t *testing.T) {
	groups(t, "(a+?)(a*)", "aaa", "a", "aa")
	groups(t, "(a|ab)(c|bcd)(d*)", "abcd", "a", "bcd", "")
}

func TestThirdExample(t *testing.T) {
	breaks(t, "[a", 2)
	breaks(t, "a**", 2)
	breaks(t, "a{2,1}", 5)
	breaks(t, ")", 0)
	breaks(t, "(a", 2)
	breaks(t, `\q`, 1)
	isTooLong(t, "(?:a{1000}){2}")
	fits(t, "", "")
	fitsNot(t, "", "a", "\x00", "\n")
	if n := compiled(t, "").States(); n != 1 {
		t.Errorf("the empty pattern has %d states", n)
	}
}

func TestErrors(t *testing.T) {
	if api.ErrRegexForm != 80 || api.ErrRegexLong != 81 {
		t.Error("the errors have other numbers")
	}
}

// A pattern of 500 bytes may be compiled, if it has no more states than it may have.
func TestLengthOfPatterns(t *testing.T) {
	a := strings.Repeat("a", 500)
	fits(t, a, a)
	fitsNot(t, a, a[1:], a+"a", "")
	isTooLong(t, a+"a")
	isTooLong(t, strings.Repeat("a", 1<<20))
	fits(t, strings.Repeat("\xff", 500), strings.Repeat("\xff", 500))
	groups(t, strings.Repeat("()", 249)+"()", "", make([]string, 250)...)
	isTooLong(t, strings.Repeat("()", 250)+"|")
	// The length comes first, whatever else holds.
	isTooLong(t, strings.Repeat(")", 501))
	isTooLong(t, strings.Repeat("(", 501))
	isTooLong(t, "["+a)
	isTooLong(t, a+`\`)
	isTooLong(t, "a{2,1}"+a)
	isTooLong(t, strings.Repeat("(?:a{1000}){1000}", 40))
	breaks(t, strings.Repeat(")", 500), 0)
	breaks(t, strings.Repeat("(", 500), 500)
	breaks(t, "["+a[1:], 500)
	breaks(t, a[1:]+`\`, 500)
	breaks(t, a[1:]+")", 499)
}

// nested is a pattern between so many parentheses.
func nested(n int, open, inner string) string {
	return strings.Repeat(open, n) + inner + strings.Repeat(")", n)
}

func TestNestedParentheses(t *testing.T) {
	for _, open := range []string{"(", "(?:"} {
		for _, n := range []int{1, 2, 99, 100} {
			compiled(t, nested(n, open, "a"))
		}
	}
	compiled(t, nested(100, "(", "a")+nested(100, "(", "b"))
	for _, open := range []string{"(", "(?:"} {
		isTooLong(t, nested(101, open, "a"))
		isTooLong(t, nested(101, open, ""))
	}
	isTooLong(t, nested(102, "(", "a"))
	isTooLong(t, nested(101, "(", "a")+"(b)")
	isTooLong(t, "(b)"+nested(101, "(", "a")+"|(?:c)")
	isTooLong(t, nested(250, "(", ""))
	isTooLong(t, "a|b("+nested(100, "(", "a")+")")
	isTooLong(t, nested(50, "(", nested(51, "(?:", "a")))
	isTooLong(t, nested(50, "(?:", nested(51, "(", "a")))
	compiled(t, nested(50, "(", nested(50, "(?:", "a")))
	// Those that are closed are not nested; nor are those of a class, or behind a backslash.
	groups(t, strings.Repeat("(a)", 120), strings.Repeat("a", 120), strings.Split(strings.Repeat("a", 120), "")...)
	compiled(t, nested(100, "(", strings.Repeat("[(]", 50)))
	compiled(t, nested(100, "(", strings.Repeat(`\(`, 100)))
	compiled(t, nested(99, "(", strings.Repeat("()", 100)))
	isTooLong(t, nested(100, "(", strings.Repeat("()", 3)))
	// Also within what is counted 0 times.
	isTooLong(t, nested(101, "(", "a")+"{0}")
	want := make([]string, 100)
	for i := range want {
		want[i] = "ab"
	}
	groups(t, nested(100, "(", "ab"), "ab", want...)
}

// The form comes before the nesting and the states, wherever it is broken.
func TestFormComesBeforeNestingAndStates(t *testing.T) {
	deep := nested(101, "(", "a")
	breaks(t, deep+")", len(deep))
	breaks(t, deep+"**", len(deep)+1)
	breaks(t, strings.Repeat("(", 101), 101)
	breaks(t, strings.Repeat("(", 101)+"a"+strings.Repeat(")", 100), 202)
	breaks(t, "*"+deep, 0)
	breaks(t, "a{1000}a{1000}]", 14)
	breaks(t, "a{1001}a{1000}", 6)
	breaks(t, "(?:a{1000}){1000}(", 18)
	breaks(t, deep+`(?:a{1000}){2}\q`, len(deep)+15)
	breaks(t, deep+"a{1000}{", len(deep)+7)
	isTooLong(t, deep+"a{1000}")
}
