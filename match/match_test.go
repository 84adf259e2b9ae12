package match_test

import (
	"strings"
	"testing"

	"barograph/api"
	"barograph/match"
)

func TestExampleOfPatterns(t *testing.T) {
	m := re("a", "x.*")
	is(t, m, "xyz", true)
	all(t, list(m), set("a", "xyz"), true)
	all(t, list(m), set("b", "xyz"), false)
	all(t, list(m), nil, false)
	if match.Empty(m) {
		t.Error("x.* matches the empty string")
	}
	all(t, list(ne("a", "x")), nil, true)
	all(t, list(ne("a", "x")), set("b", "x"), true)
	prints(t, m, `a=~"x.*"`)
}

func TestExampleOfCheck(t *testing.T) {
	checks(t, re("a", "("), api.ErrRegexForm)
	checks(t, one(5, "a", ""), api.ErrMatchForm)
	checks(t, eq("1a", ""), api.ErrMatchForm)
}

func TestKindsHaveTheNumbersOfTheDocument(t *testing.T) {
	if api.MatchEq != 1 || api.MatchNe != 2 || api.MatchRe != 3 || api.MatchNr != 4 || api.MaxMatchers != 32 || api.MaxLabel != 1024 {
		t.Error("package api has others")
	}
	if api.ErrArg != 1 || api.ErrMatchForm != 90 || api.ErrRegexForm != 80 || api.ErrRegexLong != 81 {
		t.Error("package api has other errors")
	}
}

// Each number of a kind, with what any kind may have.
func TestCheckOfKinds(t *testing.T) {
	for kind := range 256 {
		for _, value := range []string{"", "x", "x.*", "(", strings.Repeat("v", 501), strings.Repeat("v", 1024)} {
			m := one(uint8(kind), "a", value)
			isOne, isPattern := kind >= 1 && kind <= 4, kind >= 3
			switch {
			case !isOne:
				checks(t, m, api.ErrMatchForm)
			case isPattern && value == "(":
				checks(t, m, api.ErrRegexForm)
			case isPattern && len(value) > 500:
				checks(t, m, api.ErrRegexLong)
			default:
				checks(t, m, api.OK)
			}
		}
	}
}

func TestCheckOfNames(t *testing.T) {
	names := map[string]bool{
		"a": true, "_": true, "Z": true, "__name__": true, "a1": true, "_9": true, "aZ_09": true,
		"": false, "1": false, "1a": false, " a": false, "a ": false, "a b": false, "a-b": false, "a:b": false, ":": false, "é": false, "aé": false, "a\x00": false, "\xff": false, "a\n": false, "a.b": false,
		strings.Repeat("n", 1023): true, strings.Repeat("n", 1024): true, strings.Repeat("n", 1025): false, strings.Repeat("n", 1280): false, strings.Repeat("n", 65537): false,
	}
	for c := range 256 {
		b := byte(c)
		letter := 'a' <= b && b <= 'z' || 'A' <= b && b <= 'Z' || b == '_'
		names[string([]byte{b})] = letter
		names["x"+string([]byte{b})] = letter || '0' <= b && b <= '9'
	}
	for name, ok := range names {
		for kind := uint8(1); kind <= 4; kind++ {
			want := api.ErrMatchForm
			if ok {
				want = api.OK
			}
			checks(t, one(kind, name, "x"), want)
			checks(t, one(kind, name, ""), want)
		}
	}
}

func TestCheckOfLongValues(t *testing.T) {
	for _, s := range []string{"v", "(", "\x00", "\xff", "é"} {
		for _, n := range []int{0, 1, 255, 256, 499, 500, 501, 1000, 1023, 1024, 1025, 1026, 1280, 65536, 1 << 20} {
			value := strings.Repeat(s, 1+n/len(s))[:n]
			long, pattern := api.OK, api.OK
			if s == "(" && n > 0 {
				pattern = api.ErrRegexForm
			}
			if n > 500 {
				pattern = api.ErrRegexLong
			}
			if n > 1024 {
				long, pattern = api.ErrMatchForm, api.ErrMatchForm
			}
			checks(t, eq("a", value), long)
			checks(t, ne("a", value), long)
			checks(t, re("a", value), pattern)
			checks(t, nr("a", value), pattern)
		}
	}
}

// The bytes of a value may be any, also where they are no pattern: only the kinds that take one look at it.
func TestCheckOfValuesThatAreNoPatterns(t *testing.T) {
	for pattern, want := range map[string]api.Errno{
		"(": api.ErrRegexForm, ")": api.ErrRegexForm, "[a": api.ErrRegexForm, "a**": api.ErrRegexForm, "a{2,1}": api.ErrRegexForm, `\`: api.ErrRegexForm, `\q`: api.ErrRegexForm, "*": api.ErrRegexForm, "(?": api.ErrRegexForm, "a{1001}": api.ErrRegexForm,
		"(?:a{1000}){2}": api.ErrRegexLong, "a{1000}": api.ErrRegexLong, "a{999}": api.OK,
		strings.Repeat("(", 101) + strings.Repeat(")", 101): api.ErrRegexLong,
		strings.Repeat("(", 100) + strings.Repeat(")", 100): api.OK,
		"": api.OK, "|": api.OK, "a|b": api.OK, "^a$": api.OK, "[^a]": api.OK, "\x00\xff": api.OK, "[\x80-\xff]+": api.OK, `\d\w\s`: api.OK,
	} {
		checks(t, re("a", pattern), want)
		checks(t, nr("a", pattern), want)
		checks(t, eq("a", pattern), api.OK)
		checks(t, ne("a", pattern), api.OK)
	}
	for c := range 256 {
		value := string([]byte{byte(c)})
		special := strings.Contains(`\[]()*+?{}`, value)
		for kind := uint8(1); kind <= 4; kind++ {
			want := api.OK
			if special && kind >= 3 {
				want = api.ErrRegexForm
			}
			checks(t, one(kind, "a", value), want)
		}
	}
}

// ErrMatchForm comes ahead of what is said of the pattern, and ErrRegexLong of its length ahead of ErrRegexForm.
func TestCheckTellsTheFirstError(t *testing.T) {
	long, wrongLong := strings.Repeat("v", 501), strings.Repeat("(", 501)
	for _, m := range []api.Matcher{
		one(0, "a", "("), one(5, "a", "("), one(7, "a", wrongLong), one(255, "", "("), one(5, "1a", strings.Repeat("(", 1025)),
		re("", "("), nr("1a", "("), re("a b", "(?:a{1000}){2}"), nr("", long), re("\xff", wrongLong), nr(strings.Repeat("n", 1025), "("),
		re("a", strings.Repeat("(", 1025)), nr("a", strings.Repeat("(", 1025)), re("", strings.Repeat("(", 1025)), nr("1", strings.Repeat("v", 1025)),
	} {
		checks(t, m, api.ErrMatchForm)
	}
	for kind := uint8(3); kind <= 4; kind++ {
		checks(t, one(kind, "a", wrongLong), api.ErrRegexLong)
		checks(t, one(kind, "a", strings.Repeat("(", 500)), api.ErrRegexForm)
		checks(t, one(kind, "a", strings.Repeat("(", 1024)), api.ErrRegexLong)
		checks(t, one(kind, "a", "(?:a{1000}){2}("), api.ErrRegexForm)
		checks(t, one(kind, "a", strings.Repeat("(", 101)+strings.Repeat(")", 102)), api.ErrRegexForm)
	}
}

func TestListedMatchers(t *testing.T) {
	for _, m := range good() {
		checks(t, m, api.OK)
		checks(t, m, checkOf(m))
		prints(t, m, printOf(m))
	}
	for want, l := range bad() {
		for _, m := range l {
			checks(t, m, want)
			checks(t, m, checkOf(m))
		}
	}
}

// What is no matcher matches nothing, whatever the others of its list say and wherever it stands.
func TestWhatIsNoMatcherMatchesNothing(t *testing.T) {
	good := list(eq("b", "1"), ne("b", "2"), re("b", "[0-9]"), nr("b", "x"), eq("a", "x"))
	s := set("a", "x", "b", "1")
	all(t, good, s, true)
	for _, l := range bad() {
		for _, m := range l {
			for _, value := range []string{"", "x", "a", "v", m.Value, "other", "("} {
				is(t, m, value, false)
			}
			all(t, list(m), s, false)
			all(t, list(m, m), s, false)
			for at := range len(good) + 1 {
				all(t, with(good, at, m), s, false)
			}
			prints(t, m, "")
		}
	}
}

func TestIsOfEqualAndOther(t *testing.T) {
	values := []string{"", "x", "X", "xx", "x ", " x", "x\x00", "\x00", "\xff", "\xff\xff", "é", "x.*", ".*", "\n", `"`, `\x`, allBytes(), strings.Repeat("v", 1023), strings.Repeat("v", 1024)}
	others := append(values, strings.Repeat("v", 1025), strings.Repeat("v", 5000), allBytes()+"x")
	for _, wanted := range values {
		for _, value := range others {
			is(t, eq("a", wanted), value, value == wanted)
			is(t, ne("a", wanted), value, value != wanted)
		}
	}
	for c := range 256 {
		for d := range 256 {
			one, other := string([]byte{byte(c)}), string([]byte{byte(d)})
			if match.Is(eq("a", one), other) != (c == d) || match.Is(ne("a", one), other) != (c != d) {
				t.Errorf("%q and %q", one, other)
			}
		}
	}
}

func TestIsOfPatterns(t *testing.T) {
	for _, x := range []struct {
		pattern    string
		fit, other []string
	}{
		{"", []string{""}, []string{"x", " ", "\x00", "\n"}},
		{"x", []string{"x"}, []string{"", "xx", "ax", "xa", "X", "x\n", "\nx", "x\x00"}},
		{"x.*", []string{"x", "xyz", "x\n", "x\n\n\x00\xff"}, []string{"", "yx", "ax", "\nx"}},
		{".*", []string{"", "x", "\n", "\x00\xff", allBytes(), strings.Repeat("v", 5000)}, nil},
		{".+", []string{"x", "\n", "\x00", "\xff", allBytes()}, []string{""}},
		{".", []string{"x", "\n", "\x00", "\xff", "\x80"}, []string{"", "xx", "é"}},
		{"a|bc", []string{"a", "bc"}, []string{"", "b", "c", "abc", "ac", "a|bc"}},
		{"a|", []string{"", "a"}, []string{"aa", "|"}},
		{"^x$", []string{"x"}, []string{"", "^x$", "xx"}},
		{"^$", []string{""}, []string{"x", "^$", "\n"}},
		{`\.\*`, []string{".*"}, []string{"", "xx", `\.\*`, "x"}},
		{"[^a]", []string{"b", "\x00", "\xff", "\n"}, []string{"", "a", "bb"}},
		{"[\x80-\xff]+", []string{"\x80", "\xff\x80", "é"}, []string{"", "a", "\x7f", "é1"}},
		{`\d{2,3}`, []string{"12", "123"}, []string{"", "1", "1234", "1a"}},
		{"(?:ab)*", []string{"", "ab", "abab"}, []string{"a", "aba", "ba"}},
		{"x?", []string{"", "x"}, []string{"xx", "?"}},
		{`\xff`, nil, nil},
	} {
		for _, value := range x.fit {
			is(t, re("a", x.pattern), value, true)
			is(t, nr("a", x.pattern), value, false)
		}
		for _, value := range x.other {
			is(t, re("a", x.pattern), value, false)
			is(t, nr("a", x.pattern), value, true)
		}
	}
	// Each byte is matched by `.`, and by itself between brackets.
	for c := range 256 {
		value := string([]byte{byte(c)})
		is(t, re("a", "."), value, true)
		is(t, nr("a", "."), value, false)
		if !strings.Contains(`\]^`, value) {
			is(t, re("a", "["+value+"]"), value, true)
			is(t, nr("a", "["+value+"]"), value, false)
			is(t, re("a", "["+value+"]"), value+value, false)
			is(t, nr("a", "["+value+"]"), "", true)
		}
	}
}

// The name of a matcher does not matter to Is.
func TestIsOfAnyName(t *testing.T) {
	for _, name := range []string{"a", "_", "__name__", strings.Repeat("n", 1024)} {
		is(t, eq(name, "x"), "x", true)
		is(t, ne(name, "x"), "x", false)
		is(t, re(name, "x+"), "xx", true)
		is(t, nr(name, "x+"), "xx", false)
	}
}

func TestAllOfNone(t *testing.T) {
	for _, s := range [][]api.Label{nil, {}, set("a", "1"), set("b", "1", "a", ""), set("", "")} {
		all(t, nil, s, true)
		all(t, []api.Matcher{}, s, true)
	}
}

func TestAllOfOne(t *testing.T) {
	s := set("__name__", "up", "a", "1", "b", "22")
	for _, m := range []api.Matcher{
		eq("a", "1"), eq("__name__", "up"), eq("b", "22"), eq("c", ""), eq("aa", ""), eq("A", ""),
		ne("a", "2"), ne("a", ""), ne("a", "22"), ne("c", "1"), ne("c", "x"),
		re("a", "[0-9]"), re("b", "2+"), re("c", ""), re("c", "x*"), re("__name__", "u.|"),
		nr("a", "2"), nr("a", ""), nr("b", "2"), nr("c", "x"), nr("c", ".+"),
	} {
		all(t, list(m), s, true)
		opposites := []uint8{0, 2, 1, 4, 3}
		all(t, list(one(opposites[m.Kind], m.Name, m.Value)), s, false)
	}
}

func TestAllOfSeveral(t *testing.T) {
	s := set("a", "1", "b", "2", "c", "3")
	holds := list(eq("a", "1"), ne("b", "3"), re("c", "[0-9]"), nr("d", ".+"), eq("d", ""), ne("a", "2"))
	fails := list(eq("a", "2"), ne("b", "2"), re("c", "[4-9]"), nr("d", ""), eq("d", "1"), ne("a", "1"))
	for n := range len(holds) + 1 {
		all(t, holds[:n], s, true)
		for _, m := range fails {
			for at := range n + 1 {
				all(t, with(holds[:n], at, m), s, false)
			}
		}
	}
	all(t, fails, s, false)
}

func TestAllOfOneNameTwice(t *testing.T) {
	s := set("a", "xyz", "b", "1")
	all(t, list(re("a", "x.*"), re("a", ".*z")), s, true)
	all(t, list(re("a", "x.*"), re("a", ".*y")), s, false)
	all(t, list(re("a", "y.*"), re("a", ".*z")), s, false)
	all(t, list(ne("a", "x"), ne("a", "y"), nr("a", "z")), s, true)
	all(t, list(eq("a", "xyz"), eq("a", "xyz")), s, true)
	all(t, list(eq("a", "xyz"), ne("a", "xyz")), s, false)
	all(t, list(ne("a", "xyz"), eq("a", "xyz")), s, false)
	all(t, list(eq("c", ""), ne("c", "1")), s, true)
	all(t, list(eq("c", ""), eq("c", "1")), s, false)
}

// The set may be any list: of a name that is there twice the first label counts, in whatever order they are.
func TestAllOfListsThatAreNoSets(t *testing.T) {
	s := set("b", "1", "a", "first", "", "nameless", "a", "second", "c", "", "c", "late", "1d", "x")
	all(t, list(eq("a", "first")), s, true)
	all(t, list(eq("a", "second")), s, false)
	all(t, list(ne("a", "second"), nr("a", "sec.*"), re("a", "f.*")), s, true)
	all(t, list(eq("c", "")), s, true)
	all(t, list(eq("c", "late")), s, false)
	all(t, list(eq("b", "1"), eq("a", "first"), re("c", "")), s, true)
	all(t, list(eq("", "nameless")), s, false)
	all(t, list(eq("1d", "x")), s, false)
	all(t, list(ne("1d", "y")), s, false)
	long := strings.Repeat("v", 3000)
	all(t, list(re("a", "v+"), ne("a", "v"), nr("a", "v")), set("a", long), true)
}

// All has no bound of its own for the number of matchers.
func TestAllOfManyMatchers(t *testing.T) {
	for _, n := range []int{31, 32, 33, 64, 256, 257} {
		l := many(n)
		all(t, l, nil, true)
		all(t, l, set("m", "1", "n999", "x"), true)
		last := l[n-1]
		all(t, with(l, n, ne(last.Name, "")), nil, false)
		all(t, with(l, 0, ne("n000", "")), nil, false)
	}
}

func TestEmptyOfEachKind(t *testing.T) {
	for _, x := range []struct {
		m    api.Matcher
		want bool
	}{
		{eq("a", ""), true}, {eq("a", "x"), false}, {eq("a", "\x00"), false}, {eq("a", " "), false},
		{ne("a", ""), false}, {ne("a", "x"), true}, {ne("a", "\x00"), true},
		{re("a", ""), true}, {re("a", "x*"), true}, {re("a", ".*"), true}, {re("a", "x|"), true}, {re("a", "^$"), true}, {re("a", "x"), false}, {re("a", ".+"), false}, {re("a", "."), false},
		{nr("a", ""), false}, {nr("a", "x*"), false}, {nr("a", ".*"), false}, {nr("a", "x|"), false}, {nr("a", "x"), true}, {nr("a", ".+"), true},
		{one(0, "a", ""), false}, {one(5, "a", ""), false}, {eq("", ""), false}, {ne("1", "x"), false}, {re("a", "("), false}, {nr("a", "("), false}, {nr("", "x"), false},
	} {
		if got := match.Empty(x.m); got != x.want {
			t.Errorf("Empty(%s) = %v, want %v", shown(x.m), got, x.want)
		}
		is(t, x.m, "", x.want)
	}
}

func TestPrint(t *testing.T) {
	for _, x := range []struct {
		m    api.Matcher
		want string
	}{
		{eq("a", "x"), `a="x"`}, {ne("a", "x"), `a!="x"`}, {re("a", "x.*"), `a=~"x.*"`}, {nr("a", "x.*"), `a!~"x.*"`},
		{eq("a", ""), `a=""`}, {ne("_9", ""), `_9!=""`}, {re("Z", ""), `Z=~""`}, {nr("__name__", ""), `__name__!~""`},
		{eq("a", `"`), `a="\""`}, {ne("a", `\`), `a!="\\"`}, {re("a", `\.\\`), `a=~"\\.\\\\"`}, {nr("a", `"|\d`), `a!~"\"|\\d"`},
		{eq("a", "\n\r\t"), `a="\n\r\t"`}, {re("a", "\n\r\t"), `a=~"\n\r\t"`}, {eq("a", "\x00\x1f\x7f\xff"), `a="\x00\x1f\x7f\xff"`}, {nr("a", "\x00\xff"), `a!~"\x00\xff"`},
		{eq("a", "é"), `a="\xc3\xa9"`}, {eq("a", "'`"), "a=\"'`\""}, {eq("a", " x "), `a=" x "`}, {eq("a", "{=,}"), `a="{=,}"`},
		{eq(strings.Repeat("n", 1024), strings.Repeat("v", 1024)), strings.Repeat("n", 1024) + `="` + strings.Repeat("v", 1024) + `"`},
		{re("a", strings.Repeat("\xff", 500)), `a=~"` + strings.Repeat(`\xff`, 500) + `"`},
		{eq("a", "("), `a="("`}, {ne("a", "["), `a!="["`},
		{re("a", "("), ""}, {nr("a", "["), ""}, {eq("", "x"), ""}, {eq("1a", "x"), ""}, {one(0, "a", "x"), ""}, {one(5, "a", "x"), ""}, {api.Matcher{}, ""},
		{eq("a", strings.Repeat("v", 1025)), ""}, {re("a", strings.Repeat("v", 501)), ""}, {ne(strings.Repeat("n", 1025), "x"), ""},
	} {
		prints(t, x.m, x.want)
	}
	for c := range 256 {
		value := string([]byte{byte(c)})
		prints(t, eq("a", value), printOf(eq("a", value)))
		prints(t, re("a", "["+value+"x]"), printOf(re("a", "["+value+"x]")))
	}
}
