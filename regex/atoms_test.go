package regex_test

import (
	"strings"
	"testing"
)

const (
	digits  = "0123456789"
	letters = "abcdefghijklmnopqrstuvwxyzABCDEFGHIJKLMNOPQRSTUVWXYZ"
	blanks  = " \t\n\f\r"
	// signs are the bytes from 21 to 7e that are neither letters nor digits.
	signs = "!\"#$%&'()*+,-./:;<=>?@[\\]^_`{|}~"
)

// others are the bytes that a text does not have.
func others(s string) string {
	var b []byte
	for c := range 256 {
		if strings.IndexByte(s, byte(c)) < 0 {
			b = append(b, byte(c))
		}
	}
	return string(b)
}

// Each byte as a pattern of its own, and between others.
func TestEachByteAsAnAtom(t *testing.T) {
	const special = `\.[]()|*+?{}^$`
	for c := range 256 {
		s := byteText(byte(c))
		if strings.Contains(special, s) {
			continue
		}
		takes(t, s, s)
		fits(t, "a"+s+"b", "a"+s+"b")
		fitsNot(t, "a"+s+"b", "a"+byteText(byte(c+1))+"b", "ab", "a"+s+s+"b", "A"+s+"b")
		fits(t, s+"{3}", s+s+s)
	}
	takes(t, ".", allBytes())
	fits(t, "|", "")
	fits(t, "^", "")
	fits(t, "$", "")
	fitsNot(t, "|", "|")
	fitsNot(t, "^", "^")
	fitsNot(t, "$", "$")
	for _, x := range []struct {
		pattern string
		offset  int
	}{{`\`, 1}, {"[", 1}, {"]", 0}, {"(", 1}, {")", 0}, {"*", 0}, {"+", 0}, {"?", 0}, {"{", 0}, {"}", 0}} {
		breaks(t, x.pattern, x.offset)
		breaks(t, "ab|"+x.pattern, 3+x.offset)
	}
	breaks(t, "a]", 1)
	breaks(t, "a}", 1)
	breaks(t, "a)", 1)
	breaks(t, "a|*", 2)
	breaks(t, "(a]", 2)
	breaks(t, "(a}", 2)
	breaks(t, "[a]]", 3)
	breaks(t, "a{2}}", 4)
	breaks(t, "(a))", 3)
}

// escapes are what each byte behind a backslash matches; those that may not stand there lack.
func escapes() map[byte]string {
	all := map[byte]string{
		'n': "\x0a", 't': "\x09", 'r': "\x0d", 'd': digits, 'w': letters + digits + "_", 's': blanks,
		'D': others(digits), 'W': others(letters + digits + "_"), 'S': others(blanks),
	}
	for i := range len(signs) {
		all[signs[i]] = signs[i : i+1]
	}
	return all
}

func TestEachByteBehindABackslash(t *testing.T) {
	all := escapes()
	for c := range 256 {
		s := `\` + byteText(byte(c))
		want, ok := all[byte(c)]
		if !ok {
			breaks(t, s, 1)
			breaks(t, "(a|"+s+")", 4)
			breaks(t, s+"a", 1)
			continue
		}
		takes(t, s, want)
		fits(t, s+s, want[:1]+want[len(want)-1:])
		compiled(t, "("+s+"+)*")
	}
	breaks(t, `\`, 1)
	breaks(t, `ab\`, 3)
	breaks(t, `(\`, 2)
	breaks(t, `\\\`, 3)
	breaks(t, "\\\\\\\x00", 3)
	fits(t, `\\\.\*\(\)\[\]\{\}\^\$\|\+\?\/\-`, `\.*()[]{}^$|+?/-`)
}

func TestEachByteInAClass(t *testing.T) {
	for c := range 256 {
		s := byteText(byte(c))
		switch s {
		case `\`:
			breaks(t, `[\]`, 3)
			breaks(t, `[x\]`, 4)
			continue
		case "]":
			breaks(t, "[]]", 1)
			breaks(t, "[^]]", 2)
			breaks(t, "[x]]", 3)
			continue
		case "^":
			breaks(t, "[^]", 2)
		default:
			takes(t, "["+s+"]", s)
		}
		if c != 'x' {
			takes(t, "[x"+s+"]", "x"+s)
			takes(t, "[x"+s+"y]", classOfTwo(s))
			takes(t, "[^"+s+"]", others(s))
			takes(t, "[^x"+s+"]", others("x"+s))
		}
	}
}

// classOfTwo are the bytes of a class of x, a byte and y: with a dash between, a range.
func classOfTwo(s string) string {
	if s == "-" {
		return "xy"
	}
	return "x" + s + "y"
}

func TestEachByteBehindABackslashInAClass(t *testing.T) {
	all := escapes()
	for c := range 256 {
		s := `\` + byteText(byte(c))
		want, ok := all[byte(c)]
		if !ok {
			breaks(t, "["+s+"]", 2)
			breaks(t, "[^ab"+s+"]", 5)
			breaks(t, "[a-"+s+"]", 4)
			breaks(t, "["+s, 2)
			continue
		}
		takes(t, "["+s+"]", want)
		takes(t, "[^"+s+"]", others(want))
		takes(t, "[\x01"+s+"]", want+"\x01")
		takes(t, "["+s+"-]", want+"-")
		takes(t, "[-"+s+"]", want+"-")
		takes(t, "["+s+s+"]", want)
	}
	breaks(t, `[\`, 2)
	breaks(t, `[a\`, 3)
	breaks(t, `[^\`, 3)
	takes(t, `[\]\\]`, `]\`)
	takes(t, `[\d\s\-x]`, digits+blanks+"-x")
	takes(t, `[\D\d]`, allBytes())
	takes(t, `[^\D\d]`, "")
	takes(t, `[^\w\W]`, "")
	takes(t, `[\W_]`, others(letters+digits))
	takes(t, `[^\s\S]`, "")
}

// span are the bytes from one to another one.
func span(from, to int) string { return allBytes()[from : to+1] }

func TestRanges(t *testing.T) {
	takes(t, "[a-z]", letters[:26])
	takes(t, "[^a-z]", others(letters[:26]))
	takes(t, "[a-a]", "a")
	takes(t, "[b-d]", "bcd")
	takes(t, "[a-bb-c]", "abc")
	takes(t, "[a-cx-z]", "abcxyz")
	takes(t, "[0-9a-fA-F]", digits+"abcdefABCDEF")
	takes(t, "[xa-cy]", "xabcy")
	takes(t, "[\x00-\xff]", allBytes())
	takes(t, "[^\x00-\xff]", "")
	takes(t, "[\x00-\x00]", "\x00")
	takes(t, "[\xff-\xff]", "\xff")
	takes(t, "[\x7f-\x80]", "\x7f\x80")
	takes(t, "[^\x01-\xfe]", "\x00\xff")
	takes(t, "[^-^]", others("-^"))
	takes(t, "[a-z-]", letters[:26]+"-")
	takes(t, "[!-/:-@]", "!\"#$%&'()*+,-./:;<=>?@")
	takes(t, "[.-9]", "./"+digits)
	takes(t, "[[-_]", span('[', '_'))
	takes(t, "[Z-[]", "Z[")
	takes(t, "[(-*]", "()*")
	takes(t, "[{-}]", "{|}")
	takes(t, "[^-a]", others("-a"))
	takes(t, "[a^-c]", "a^_`bc")
	// Of escapes that match a single byte.
	takes(t, `[\t-\r]`, "\t\n\v\f\r")
	takes(t, `[\n-\n]`, "\n")
	takes(t, `[\n-a]`, span('\n', 'a'))
	takes(t, `[ -\/]`, span(' ', '/'))
	takes(t, `[\[-\]]`, `[\]`)
	takes(t, `[\\-\]]`, `\]`)
	takes(t, `[[-\]]`, `[\]`)
	takes(t, `[+-\-]`, "+,-")
	takes(t, `[\--\/]`, "-./")
	takes(t, `[\--0]`, "-./0")
	takes(t, `[a\-z]`, "a-z")
	takes(t, `[\^-a]`, "^_`a")
	// Each two bytes that are neighbours, upwards and downwards.
	for c := range 255 {
		from, to := byteText(byte(c)), byteText(byte(c+1))
		if strings.Contains(`]\-^`, from) || strings.Contains(`]\-^`, to) {
			continue
		}
		takes(t, "["+from+"-"+to+"]", from+to)
		takes(t, "["+from+"-"+from+"]", from)
		breaks(t, "["+to+"-"+from+"]", 3)
	}
}

func TestRangesThatFall(t *testing.T) {
	breaks(t, "[z-a]", 3)
	breaks(t, "[b-a]", 3)
	breaks(t, "[^b-a]", 4)
	breaks(t, "[z-a", 3)
	breaks(t, "[xyb-a]", 5)
	breaks(t, "[a-bd-c]", 6)
	breaks(t, "[\xff-\x00]", 3)
	breaks(t, "[\x80-\x7f]", 3)
	breaks(t, "(a|[9-0])", 6)
	breaks(t, `[a-\n]`, 3)
	breaks(t, `[a-\n`, 3)
	breaks(t, `[\r-\n]`, 4)
	breaks(t, `[\]-\[]`, 4)
	breaks(t, `[z-\.]`, 3)
	breaks(t, "[b-a-]", 3)
	breaks(t, "[b-a]*{", 3)
	breaks(t, "[z-a]"+strings.Repeat("(", 101), 3)
}

func TestDashes(t *testing.T) {
	// The first byte of the items.
	takes(t, "[-]", "-")
	takes(t, "[^-]", others("-"))
	takes(t, "[-a]", "-a")
	takes(t, "[^-a]", others("-a"))
	takes(t, "[-a-c]", "-abc")
	takes(t, `[-\d]`, "-"+digits)
	takes(t, `[^-\d]`, others("-"+digits))
	takes(t, "[--0]", "-./0")
	takes(t, "[^--0]", others("-./0"))
	takes(t, "[--]", "-")
	takes(t, "[---]", "-")
	takes(t, "[^---]", others("-"))
	takes(t, "[--/a]", "-./a")
	// Directly ahead of the end.
	takes(t, "[a-]", "a-")
	takes(t, "[^a-]", others("a-"))
	takes(t, "[ab-]", "ab-")
	takes(t, "[a-c-]", "abc-")
	takes(t, `[\d-]`, digits+"-")
	takes(t, `[^\d-]`, others(digits+"-"))
	takes(t, `[\n-]`, "\n-")
	takes(t, `[-a-]`, "a-")
	takes(t, "[+--]", "+,-")
	takes(t, "[---]", "-")
	// At the end of a range too it stands for itself.
	takes(t, "[+--a]", "+,-a")
	takes(t, "[+---]", "+,-")
	takes(t, "[----]", "-")
	takes(t, "[---a]", "-a")
	takes(t, `[+--\d]`, "+,-"+digits)
	breaks(t, "[a--]", 3)
	breaks(t, "[a--b]", 3)
	// Behind an item that does not match a single byte.
	breaks(t, `[\d-a]`, 3)
	breaks(t, `[\w-\w]`, 3)
	breaks(t, `[\S--]`, 3)
	breaks(t, `[^\d-a]`, 4)
	breaks(t, `[x\d-a]`, 4)
	breaks(t, `[-\D-a]`, 4)
	breaks(t, `[\d-\]`, 3)
	breaks(t, `[a\s-[]`, 4)
	// Behind a range.
	breaks(t, "[a-c-e]", 4)
	breaks(t, "[^a-c-e]", 5)
	breaks(t, "[a-c--]", 4)
	breaks(t, `[a-c-\d]`, 4)
	breaks(t, "[a-c-[]", 4)
	breaks(t, "[xa-c-e]", 5)
	breaks(t, "[a-a-a]", 4)
	breaks(t, "[--/-a]", 4)
	breaks(t, "[----a]", 4)
	breaks(t, `[\t-\n-a]`, 6)
	// Ahead of one that does not match a single byte: at that one.
	breaks(t, `[a-\d]`, 3)
	breaks(t, `[a-\W]`, 3)
	breaks(t, `[^a-\s]`, 4)
	breaks(t, `[xa-\D]`, 4)
	breaks(t, `[--\d]`, 3)
	breaks(t, `[\n-\w]`, 4)
	breaks(t, `[a-\d`, 3)
	breaks(t, "[\x00-\\d]", 3)
	breaks(t, "[\x00-\\S", 3)
	breaks(t, `[a-\q]`, 4)
	// Where the class has no end, the pattern ends too early.
	breaks(t, "[-", 2)
	breaks(t, "[^-", 3)
	breaks(t, "[--", 3)
	breaks(t, "[a-", 3)
	breaks(t, "[a-c-", 5)
	breaks(t, `[\d-`, 4)
	breaks(t, `[x\W-`, 5)
	breaks(t, `[a-\`, 4)
	breaks(t, "(a|[a-z-", 8)
}

func TestClasses(t *testing.T) {
	takes(t, "[abc]", "abc")
	takes(t, "[^abc]", others("abc"))
	takes(t, "[aa]", "a")
	takes(t, "[a^]", "a^")
	takes(t, "[^^]", others("^"))
	takes(t, "[^^a]", others("^a"))
	takes(t, "[[]", "[")
	takes(t, "[a[]", "a[")
	takes(t, "[[a]", "[a")
	takes(t, "[^[]", others("["))
	takes(t, "[[[]", "[")
	takes(t, `[[\]]`, "[]")
	takes(t, "[.*+?(){}|$]", ".*+?(){}|$")
	takes(t, "[\n\x00\xff]", "\n\x00\xff")
	// What looks like a name of a class is none.
	fits(t, "[[:d]", "[", ":", "d")
	fits(t, "[[:digit:]x", "dx", ":x", "[x")
	breaks(t, "[[:digit:]]", 10)
	// Without items, and without an end.
	breaks(t, "[]", 1)
	breaks(t, "[^]", 2)
	breaks(t, "[]a]", 1)
	breaks(t, "[^]a]", 2)
	breaks(t, "[", 1)
	breaks(t, "[^", 2)
	breaks(t, "[a", 2)
	breaks(t, "[^a", 3)
	breaks(t, "[^^", 3)
	breaks(t, "[abc", 4)
	breaks(t, "[[", 2)
	breaks(t, `[\]`, 3)
	breaks(t, "[a-z", 4)
	breaks(t, "([a)", 4)
	breaks(t, "[a|(b)*", 7)
	// One takes one byte, and has a count as any atom.
	fits(t, "[ab][cd]", "ac", "bd")
	fitsNot(t, "[ab][cd]", "ab", "ca", "a", "acd", "")
	fits(t, "[ab]{2,3}", "ab", "bab")
	fitsNot(t, "[ab]{2,3}", "a", "abab", "abc")
	groups(t, "([a-c]*)([^a]*)", "abcdd", "abc", "dd")
}

// A dot takes any byte, at each place of a text.
func TestDotAtEachPlace(t *testing.T) {
	const text = "ab\ncd"
	for i := range len(text) {
		pattern := text[:i] + "." + text[i+1:]
		r, grouped := compiled(t, pattern), compiled(t, text[:i]+"(.)+"+text[i+1:])
		for c := range 256 {
			s := text[:i] + byteText(byte(c)) + text[i+1:]
			hasGroups(t, r, pattern, s)
			hasGroups(t, grouped, pattern, s, byteText(byte(c)))
		}
		hasNone(t, r, pattern, text[:i]+text[i+1:])
		hasNone(t, r, pattern, text[:i]+"xx"+text[i+1:])
	}
}

// Where the text begins and where it ends, and nowhere else.
func TestEdges(t *testing.T) {
	fits(t, "^a", "a")
	fits(t, "a$", "a")
	fits(t, "^a$", "a")
	fits(t, "^^a$$", "a")
	fits(t, "^$", "")
	fits(t, "$^", "")
	fits(t, "^^$$^$", "")
	fitsNot(t, "^$", "a", "\n")
	fitsNot(t, "a^", "a", "a^")
	fitsNot(t, "$a", "a", "$a")
	fitsNot(t, "a^b", "ab", "a\nb")
	fitsNot(t, "a$b", "ab", "a\nb")
	// A line that begins or ends is no edge.
	fits(t, "a.b", "a\nb")
	fitsNot(t, "a.^b", "a\nb")
	fitsNot(t, "a$.b", "a\nb")
	fitsNot(t, "a$", "a\n")
	fitsNot(t, "^a", "\na")
	// At each place of a text.
	for i := range 5 {
		text := "abcd"
		at := text[:i] + "^" + text[i:]
		if i == 0 {
			fits(t, at, text)
		} else {
			fitsNot(t, at, text)
		}
		at = text[:i] + "$" + text[i:]
		if i == 4 {
			fits(t, at, text)
		} else {
			fitsNot(t, at, text)
		}
	}
	// Within counts.
	fits(t, "^*a", "a")
	fits(t, "^+a", "a")
	fits(t, "^?a", "a")
	fits(t, "^{3}a", "a")
	fits(t, "^{2,}a", "a")
	fits(t, "a^*b", "ab")
	fits(t, "a^?b", "ab")
	fits(t, "a^{0}b", "ab")
	fits(t, "a^{0,}?b", "ab")
	fitsNot(t, "a^+b", "ab")
	fitsNot(t, "a^{1,2}b", "ab")
	fits(t, "a$*", "a")
	fits(t, "a$+", "a")
	fits(t, "a$*b", "ab")
	fitsNot(t, "a$+b", "ab")
	fits(t, "(?:^a)+", "a")
	fitsNot(t, "(?:^a)+", "aa", "")
	fits(t, "(?:a$)*", "a", "")
	fitsNot(t, "(?:a$)*", "aa")
	fits(t, "(?:^|a)+", "", "a", "aa")
	fits(t, "(?:^|a){3}", "", "a", "aa", "aaa")
	fitsNot(t, "(?:^|a){3}", "aaaa")
	fits(t, "(?:a|$){3}", "", "a", "aa", "aaa")
	fits(t, "b(?:^|a)*", "b", "baa")
	fitsNot(t, "b(?:^|a)+", "b")
	fits(t, "b(?:^|a)+", "ba")
	fits(t, "(?:a|$)+b*", "a", "aa", "abb", "")
	fitsNot(t, "(?:a|$)+b*", "b")
	// Within groups and branches.
	groups(t, "(^)(a)($)", "a", "", "a", "")
	groups(t, "(^a|b)*", "ab", "b")
	groups(t, "(a$|a)*", "aa", "a")
	groups(t, "(^|x)a(x|$)", "a", "", "")
	groups(t, "(^|x)a(x|$)", "xax", "x", "x")
	groups(t, "((^)|a)*", "aa", "a", "")
	fitsNot(t, "(a|b^)c", "bc")
	fits(t, "[^^]", "a")
	fits(t, `\^\$`, "^$")
}

// The bytes of a text are matched one by one, whatever they would be together.
func TestAnyBytes(t *testing.T) {
	const euro = "\xe2\x82\xac"
	fits(t, "€", euro)
	fits(t, "...", euro)
	fitsNot(t, ".", euro)
	fits(t, "[€]{3}", euro, "\xac\x82\xe2")
	fits(t, "\xe2.\xac", euro)
	fits(t, `\W{3}`, euro)
	fits(t, "\x00*", "", "\x00\x00")
	fits(t, "[\x80-\xff]*", euro, "\xff\xfe")
	fits(t, ".*", allBytes(), strings.Repeat(allBytes(), 4))
	fits(t, "(?:\xff\xfe)+", "\xff\xfe\xff\xfe")
	groups(t, "(.)(.*)", euro, "\xe2", "\x82\xac")
	groups(t, "([^\x00]*)\x00(.*)", "a\x00b\x00\n", "a", "b\x00\n")
	fitsNot(t, "a", "A", "\xe1")
}
