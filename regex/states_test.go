package regex_test

import (
	"strings"
	"testing"

	"barograph/regex"
)

// hasStates asks for the number of states.
func hasStates(t *testing.T, pattern string, want int) {
	t.Helper()
	if got := compiled(t, pattern).States(); got != want {
		t.Errorf("%q has %d states, want %d", short(pattern), got, want)
	}
}

func TestStates(t *testing.T) {
	for pattern, want := range map[string]int{
		"": 1,
		// Atoms.
		"a": 2, ".": 2, "^": 2, "$": 2, `\n`: 2, `\d`: 2, `\W`: 2, `\.`: 2, "[a]": 2, "[^a-z0-9_]": 2, "\x00": 2, "\xff": 2, "abc": 4, `^a.$`: 5,
		// Branches.
		"|": 3, "||": 5, "|||": 7, "a|b": 5, "a|": 4, "|a": 4, "a|b|c": 8, "ab|cd|": 9, "a|b|c|d": 11,
		// Groups.
		"()": 3, "(a)": 4, "(ab)": 5, "(a|b)": 7, "((a))": 6, "(a)(b)": 7, "(|)": 5, "(())": 5, "()()": 5, "(a)|b": 7,
		"(?:)": 1, "(?:a)": 2, "(?:ab)": 3, "(?:a|b)": 5, "(?:(?:a))": 2, "((?:a))": 4, "(?:(a))": 4, "(?:|)": 3, "(?:(?:))": 1,
		// Counts.
		"a*": 4, "a+": 3, "a?": 3, "a*?": 4, "a+?": 3, "a??": 3,
		"a{0}": 1, "a{1}": 2, "a{2}": 3, "a{7}": 8, "a{999}": 1000, "a{0}?": 1, "a{3}?": 4, "a{0007}": 8, "a{00}": 1,
		"a{0,}": 4, "a{1,}": 5, "a{2,}": 6, "a{996,}": 1000, "a{2,}?": 6,
		"a{0,0}": 1, "a{0,1}": 3, "a{0,2}": 5, "a{1,1}": 2, "a{1,2}": 4, "a{2,5}": 9, "a{3,3}": 4, "a{0,499}": 999, "a{1,500}": 1000, "a{2,5}?": 9, "a{02,005}": 9,
		"^*": 4, "$+": 3, ".{3}": 4, "[ab]{3}": 4, `\d{2,}`: 6,
		// Counts around groups and around what has no states.
		"(a)*": 6, "(a)+": 5, "(a)?": 5, "(a){3}": 10, "(a){0}": 1, "(a){2,}": 12, "(a){1,3}": 12, "(a|b){2}": 13, "(ab)*?": 7,
		"(?:ab)*": 5, "(?:ab){3}": 7, "(?:ab){1,3}": 9, "(?:a|b)+": 6, "(?:a|b){2,}": 15,
		"()*": 5, "(){3}": 7, "(?:)*": 3, "(?:)+": 2, "(?:)?": 2, "(?:){1000}": 1, "(?:){0}": 1, "(?:){1000,}": 3, "(?:){1,1000}": 1000, "(?:){3,7}": 5, "(?:){1000,1000}": 1,
		"a*b+c?": 8, "a*|b+": 8,
		// Counts of counts.
		"(?:a*)*": 6, "(?:a+)+": 4, "(?:a?)?": 4, "(?:a*)+": 5, "(a*)*": 8, "((a*)*)*": 12, "(?:a{2}){3}": 7, "(?:a{2}){3,}": 11, "(?:a{1,2}){2,3}": 11, "(?:a{3,}){2}": 13, "(?:(?:a{2}){2}){2}": 9,
		"(?:a{10}){10}(?:a{10}){10}": 201, "(?:(?:a{9}){11}){10}": 991, "(?:a{999}){0}": 1, "(?:a{999}){1}": 1000,
		"(?:a{2}|b{3}){4}": 29, "(a{2}|b{3}){4}": 37,
		// Too many states are no matter where there are none of them in the end.
		"(?:a{1000}){0}": 1, "(?:(?:a{1000}){1000}){0}": 1, "(?:(?:a{1000}){1000}){0,0}b": 2, "(?:(?:(?:a{1000}){1000,}){0}){1000}": 1, "(?:a{1000}b){0}c{3}": 4, "((a{1000}){1000}){0}": 1,
	} {
		hasStates(t, pattern, want)
	}
}

func TestStatesAtTheirLimit(t *testing.T) {
	for _, pattern := range []string{"a{1000}", "a{1000}?", "a{997,}", "a{1000,}", "a{0,500}", "a{1,501}", "a{1000,1000}", "(?:){0,1000}", "(?:){0,1000}?", "a{999}b", "ba{999}", "a{999}|", "|a{999}", "(a{997})a", "(a{998})", "(?:a{999})+", "(?:a{998})*", "(?:a{998}|b)", "(?:a{500}){2}", "(?:a{499}){2}aa", "(?:a{100}){10}", "(?:a{1000}){1000}", "(?:a{1000,}){1000}", "(?:a{0,1000}){1000}", "(?:(?:){0,1000}){1000}", "a{500}|b{498}", "(?:(?:(?:a{1000}){1000}){1000}){1000}", "(?:(?:a{1000}){1000})?", "(?:a{1000}){0}a{1000}", "(?:(?:a{1000}){0,1}){1}"} {
		isTooLong(t, pattern)
	}
	for _, pattern := range []string{"a{999}", "a{996,}", "a{1,500}", "a{999,999}", "(?:){0,999}", "a{998}b", "a{997}|", "(a{997})", "(?:a{998})+", "(?:a{997})*", "(?:a{996}|b)", "(?:a{333}){3}", "(?:a{499}){2}a", "a{500}|b{497}", "(?:a{998})?"} {
		if n := compiled(t, pattern).States(); n != 1000 {
			t.Errorf("%q has %d states, want 1000", pattern, n)
		}
	}
	// Products and sums have no bound.
	most := strings.Repeat("(?:", 50) + "a" + strings.Repeat("){99}", 50)
	isTooLong(t, most)
	isTooLong(t, strings.Repeat("(?:", 50)+"a"+strings.Repeat("){64}", 50))
	isTooLong(t, strings.Repeat("(?:", 40)+"a"+strings.Repeat("){256}", 40))
	isTooLong(t, strings.Repeat("(?:", 40)+"a"+strings.Repeat("){512,}", 40))
	isTooLong(t, strings.Repeat("(?:", 40)+"a"+strings.Repeat("){2,3}", 40))
	hasStates(t, "(?:"+most+"){0}", 1)
}

// A count of what has no states takes no time, however often it is counted.
func TestCountsOfNothing(t *testing.T) {
	for _, x := range []struct{ inner, count string }{{"", "{1000}"}, {"a{0}", "{1000}"}, {"", "{1000,1000}"}, {"(a){0}", "{999}"}} {
		n := (499 - len(x.inner)) / (3 + 1 + len(x.count))
		pattern := strings.Repeat("(?:", n) + x.inner + strings.Repeat(")"+x.count, n)
		hasStates(t, pattern, 1)
		if r := compiled(t, pattern); !r.Match("") || r.Match("a") {
			t.Errorf("%q does not fit the empty text alone", short(pattern))
		}
	}
	// Behind the first mandatory ones comes a loop, which has states of its own.
	hasStates(t, strings.Repeat("(?:", 2)+strings.Repeat("){1,}", 2), 2*2+3)
}

func TestMany(t *testing.T) {
	for pattern, want := range map[string]int{
		"": 0, "a": 0, "(a)": 1, "(?:a)": 0, "()": 1, "(())": 2, "(a)(b)(c)": 3, "((a)(?:(b)|c))": 3, "(a){3}": 1, "(a){0}": 1, "((a){0}){0}": 2, "(a)*(b)+(c)?": 3, "[(]": 0, `\(`: 0, `[\(()](a)`: 1, "(a)|(b)|(c)|(?:(d))": 4,
		strings.Repeat("()", 249) + "a": 249, strings.Repeat("()", 250): 250, strings.Repeat("(?:)", 125): 0,
	} {
		if got := compiled(t, pattern).Many(); got != want {
			t.Errorf("%q has %d groups, want %d", short(pattern), got, want)
		}
	}
}

// What a pattern tells of itself stays, whatever it is asked.
func TestStatesAndManyStay(t *testing.T) {
	r, _, _ := regex.Compile("(a|b)*(c)")
	for range 3 {
		if r.States() != 12 || r.Many() != 2 {
			t.Error(r.States(), r.Many())
		}
		r.Match("abc")
		r.Groups("abc")
	}
}
