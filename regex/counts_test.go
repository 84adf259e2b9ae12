package regex_test

import (
	"slices"
	"strconv"
	"strings"
	"testing"
)

// fitsTimes asks a pattern of a's how many of them may be there, out of the first ones.
func fitsTimes(t *testing.T, pattern string, most int, want ...int) {
	t.Helper()
	r := compiled(t, pattern)
	for n := range most + 1 {
		text := strings.Repeat("a", n)
		if ok := r.Match(text); ok != slices.Contains(want, n) {
			t.Errorf("%q on %d times a: %v", pattern, n, ok)
		}
	}
}

// upTo are the numbers from one to another one.
func upTo(from, to int) []int {
	var all []int
	for n := from; n <= to; n++ {
		all = append(all, n)
	}
	return all
}

// The form of a count, and as a lazy one it lets an atom occur as often.
func TestCounts(t *testing.T) {
	for count, want := range map[string][]int{
		"": {1}, "*": upTo(0, 8), "+": upTo(1, 8), "?": {0, 1},
		"{0}": {0}, "{1}": {1}, "{2}": {2}, "{5}": {5},
		"{0,}": upTo(0, 8), "{1,}": upTo(1, 8), "{2,}": upTo(2, 8), "{7,}": {7, 8},
		"{0,0}": {0}, "{0,1}": {0, 1}, "{0,3}": upTo(0, 3), "{1,1}": {1}, "{1,2}": {1, 2}, "{2,5}": upTo(2, 5), "{3,3}": {3}, "{4,8}": upTo(4, 8),
		// Zeros ahead of a number.
		"{00}": {0}, "{02}": {2}, "{002}": {2}, "{0002}": {2}, "{0000}": {0}, "{01,}": upTo(1, 8), "{0001,0002}": {1, 2}, "{0,0000}": {0}, "{1,02}": {1, 2},
	} {
		fitsTimes(t, "a"+count, 8, want...)
		fitsTimes(t, "(?:a)"+count, 8, want...)
		fitsTimes(t, "[a]"+count, 8, want...)
		fitsTimes(t, "(?:a"+count+"|b)", 8, want...)
		if count != "" {
			fitsTimes(t, "a"+count+"?", 8, want...)
			fitsTimes(t, "(?:a|b)"+count+"?", 8, want...)
		}
	}
	// A `?` behind a count makes it lazy; one by itself is a count.
	fitsTimes(t, "a??", 8, 0, 1)
	fitsTimes(t, "a?a", 8, 1, 2)
	fitsTimes(t, "aa?", 8, 1, 2)
	fitsTimes(t, "a{2}a?", 8, 2, 3)
	fitsTimes(t, "a{2}?a", 8, 3)
}

// A count belongs to its atom alone.
func TestWhatACountBelongsTo(t *testing.T) {
	fits(t, "ab*", "a", "ab", "abb")
	fitsNot(t, "ab*", "", "aab", "abab")
	fits(t, "(?:ab)*", "", "ab", "abab")
	fitsNot(t, "(?:ab)*", "a", "abb", "ba")
	fits(t, "a|b*", "a", "", "bb")
	fitsNot(t, "a|b*", "aa", "ab")
	fits(t, `\d{2}x`, "12x")
	fitsNot(t, `\d{2}x`, "1x", "12xx", "1xx")
	fits(t, `\\*`, `\\`, "")
	fits(t, `\*{2}`, "**")
	fits(t, "[*]?", "*", "")
	fits(t, ".{3}", "abc", "\n\x00\xff")
	fitsNot(t, ".{3}", "ab", "abcd")
	groups(t, "()*a(){3}b(|){2}", "ab", "", "", "")
}

func TestGreatCounts(t *testing.T) {
	a := func(n int) string { return strings.Repeat("a", n) }
	fits(t, "a{999}", a(999))
	fitsNot(t, "a{999}", a(998), a(1000), "")
	fits(t, "a{996,}", a(996), a(997), a(2000))
	fitsNot(t, "a{996,}", a(995), "")
	fits(t, "a{0,499}", "", a(1), a(498), a(499))
	fitsNot(t, "a{0,499}", a(500))
	fits(t, "a{1,500}", a(1), a(500))
	fitsNot(t, "a{1,500}", "", a(501))
	// As lazy ones they let an atom occur as often.
	fits(t, "a{999}?", a(999))
	fitsNot(t, "a{999}?", a(998), a(1000))
	fits(t, "a{996,}?", a(996), a(997), a(2000))
	fitsNot(t, "a{996,}?", a(995))
	fits(t, "a{0,499}?", "", a(499))
	fitsNot(t, "a{0,499}?", a(500))
	groups(t, "(a{1,400}?)(a*)", a(500), "a", a(499))
	groups(t, "(a{1,400})(a*)", a(500), a(400), a(100))
	groups(t, "(a{400,}?)(a*)", a(500), a(400), a(100))
	groups(t, "(a{400,})(a*)", a(500), a(500), "")
	fits(t, "(?:){1000}?", "")
	fits(t, "(?:){1,1000}?", "")
	fits(t, "(?:){1000}", "")
	fits(t, "(?:){0,999}", "")
	fits(t, "(?:){1,1000}", "")
	fits(t, "(?:){1000,}", "")
	fits(t, "(?:){1000,1000}b", "b")
	fits(t, "(?:a{1000}){0}", "")
	fitsNot(t, "(?:a{1000}){0}", a(1000))
	fits(t, "(?:a{33}){30}", a(990))
	fitsNot(t, "(?:a{33}){30}", a(989), a(991), a(33))
	isTooLong(t, "a{1000}")
	isTooLong(t, "a{1000,}")
	isTooLong(t, "a{0,1000}")
	isTooLong(t, "a{1000,1000}")
}

func TestNumbersOfCounts(t *testing.T) {
	// Greater than 1000: behind the number.
	breaks(t, "a{1001}", 6)
	breaks(t, "a{1001,}", 6)
	breaks(t, "a{1001,2000}", 6)
	breaks(t, "a{9999}", 6)
	breaks(t, "a{1001", 6)
	breaks(t, "a{1001x", 6)
	breaks(t, "a{0,1001}", 8)
	breaks(t, "a{1000,1001}", 11)
	breaks(t, "a{5,9999", 8)
	breaks(t, "(?:){1001}", 9)
	breaks(t, "(?:){0,1001}", 11)
	// Less than the one ahead of it: behind it.
	breaks(t, "a{2,1}", 5)
	breaks(t, "a{1,0}", 5)
	breaks(t, "a{20,19}", 7)
	breaks(t, "a{1000,999}", 10)
	breaks(t, "a{3,0002}", 8)
	breaks(t, "a{2,1", 5)
	breaks(t, "a{2,1x", 5)
	breaks(t, "a{10,9}?", 6)
	breaks(t, "(?:){2,1}", 8)
	// A fifth digit: at it.
	breaks(t, "a{00001}", 6)
	breaks(t, "a{00000}", 6)
	breaks(t, "a{12345}", 6)
	breaks(t, "a{10000}", 6)
	breaks(t, "a{00001,}", 6)
	breaks(t, "a{0,00001}", 8)
	breaks(t, "a{1,00001}", 8)
	breaks(t, "a{0000,00000}", 11)
	breaks(t, "a{0000000000}", 6)
	breaks(t, "a{"+strings.Repeat("9", 400)+"}", 6)
	// Four digits, and numbers up to 1000.
	for _, n := range []int{0, 1, 9, 10, 99, 100, 999, 1000} {
		s := strconv.Itoa(n)
		for len(s) <= 4 {
			compiled(t, "(?:){"+s+"}")
			compiled(t, "(?:){"+s+",}")
			compiled(t, "(?:){"+s+","+s+"}")
			s = "0" + s
		}
		breaks(t, "(?:){"+s+"}", 9)
	}
	for n := 1001; n <= 9999; n += 1 + n/50 {
		breaks(t, "(?:){"+strconv.Itoa(n)+"}", 9)
		breaks(t, "(?:){7,"+strconv.Itoa(n)+"}", 11)
	}
}

func TestBraces(t *testing.T) {
	breaks(t, "a{}", 2)
	breaks(t, "a{,}", 2)
	breaks(t, "a{,5}", 2)
	breaks(t, "a{x}", 2)
	breaks(t, "a{-1}", 2)
	breaks(t, "a{+1}", 2)
	breaks(t, "a{ 1}", 2)
	breaks(t, "a{1 }", 3)
	breaks(t, "a{1x}", 3)
	breaks(t, "a{1,,}", 4)
	breaks(t, "a{1, 2}", 4)
	breaks(t, "a{1,x}", 4)
	breaks(t, "a{1,-}", 4)
	breaks(t, "a{1,2,3}", 5)
	breaks(t, "a{1,2 }", 5)
	breaks(t, "a{1)", 3)
	breaks(t, "(a{1)", 4)
	breaks(t, "a{", 2)
	breaks(t, "a{1", 3)
	breaks(t, "a{1,", 4)
	breaks(t, "a{1,2", 5)
	breaks(t, "a{1}{", 4)
	breaks(t, "(a{1,2", 6)
}

func TestCountsBehindNoAtom(t *testing.T) {
	counts := []string{"*", "+", "?", "{2}", "{2,}", "{2,3}"}
	for _, count := range counts {
		breaks(t, count, 0)
		breaks(t, "|"+count, 1)
		breaks(t, "a|"+count, 2)
		breaks(t, "(a|"+count+")", 3)
		breaks(t, "(?:"+count+")", 3)
		// Behind a parenthesis a question mark begins another one's form.
		if count != "?" {
			breaks(t, "("+count+")", 1)
			breaks(t, "(a)("+count, 4)
		}
		// Behind another count.
		for _, other := range counts {
			breaks(t, "a"+other+"?"+count, 2+len(other))
			breaks(t, "(a)"+other+"?"+count+"b", 4+len(other))
			if count != "?" {
				breaks(t, "a"+other+count, 1+len(other))
				breaks(t, "(a"+other+count+")", 2+len(other))
			}
		}
		// But behind any other atom.
		for _, atom := range []string{"a", ".", "^", "$", `\d`, `\*`, "[*]", "()", "(a)", "(?:)", "(?:a|b)", "(a*)"} {
			compiled(t, atom+count)
			compiled(t, atom+count+"?")
			breaks(t, atom+count+"??", len(atom)+len(count)+1)
		}
	}
	breaks(t, "{", 0)
	breaks(t, "{x", 0)
	breaks(t, "a*{", 2)
}

func TestParentheses(t *testing.T) {
	fits(t, "(?:a)", "a")
	fits(t, "(?:)", "")
	fits(t, "(?:|a)", "", "a")
	fits(t, "(?:(?:a|b)c)", "ac", "bc")
	fits(t, "(?::)", ":")
	groups(t, "()", "", "")
	groups(t, "(|)", "", "")
	groups(t, "(a|)", "a", "a")
	groups(t, "(:)", ":", ":")
	for c := range 256 {
		s := byteText(byte(c))
		if s != ":" {
			breaks(t, "(?"+s, 2)
			breaks(t, "(?"+s+")", 2)
			breaks(t, "a(?"+s+"a)", 3)
		}
	}
	breaks(t, "(?", 2)
	breaks(t, "(?)", 2)
	breaks(t, "(??:a)", 2)
	breaks(t, "(?P<n>a)", 2)
	breaks(t, "(?i)a", 2)
	breaks(t, "(?:", 3)
	breaks(t, "(", 1)
	breaks(t, "((", 2)
	breaks(t, "(a", 2)
	breaks(t, "(a|", 3)
	breaks(t, "(a(b)", 5)
	breaks(t, "(?:a", 4)
	breaks(t, ")", 0)
	breaks(t, "a)", 1)
	breaks(t, "(a))", 3)
	breaks(t, "()())", 4)
	breaks(t, "a|)b", 2)
	breaks(t, ")(", 0)
}

func TestBranches(t *testing.T) {
	fits(t, "a|b", "a", "b")
	fitsNot(t, "a|b", "ab", "", "|", "c", "a|b")
	fits(t, "ab|cd|ef", "ab", "cd", "ef")
	fitsNot(t, "ab|cd|ef", "abcd", "acd", "abd", "abcdef")
	fits(t, "a|", "a", "")
	fits(t, "|a", "a", "")
	fits(t, "a||b", "a", "b", "")
	fits(t, "||", "")
	fits(t, "a(?:b|c)d", "abd", "acd")
	fitsNot(t, "a(?:b|c)d", "ab", "cd", "ad", "abcd")
	fits(t, "(?:a|b)(?:c|d)|e", "ac", "bd", "ad", "bc", "e")
	fits(t, "a|b*|c{2}", "a", "bbb", "cc", "")
}
