package text_test

import (
	"strconv"
	"strings"
	"testing"
	"unicode/utf8"

	"barograph/api"
	"barograph/text"
)

// unquotes asks for what a quoted string has in it; it is read whole, and whatever follows.
func unquotes(t *testing.T, s, want string) {
	t.Helper()
	for _, behind := range []string{"", "x", `"`, "'", "`", "\\", "\n", `"x"`, "\x00", "\xff"} {
		if got, e, n := text.Unquote(s + behind); got != want || e != api.OK || n != len(s) {
			t.Errorf("Unquote(%q) = %q, %v, %d, want %q and %d", s+behind, got, e, n, want, len(s))
		}
	}
}

// breaks asks for the offset of an error.
func breaks(t *testing.T, s string, offset int) {
	t.Helper()
	if got, e, n := text.Unquote(s); got != "" || e != api.ErrTextQuote || n != offset {
		t.Errorf("Unquote(%q) = %q, %v, %d, want errno 42 and %d", s, got, e, n, offset)
	}
}

func TestExamplesOfQuotes(t *testing.T) {
	if got := text.Quote("a\"\xff"); got != `"a\"\xff"` {
		t.Error(got)
	}
	if got, e, n := text.Unquote(`'a\x41' b`); got != "aA" || e != api.OK || n != 7 {
		t.Errorf("%q, %v, %d", got, e, n)
	}
	breaks(t, `"a`, 2)
	breaks(t, `"\q"`, 1)
	breaks(t, `"\x4g"`, 1)
	breaks(t, `"\x4`, 4)
	breaks(t, "x", 0)
	breaks(t, "", 0)
}

// quoted is what the chapter says of Quote of one byte, word for word.
func quoted(c byte) string {
	const hex = "0123456789abcdef"
	switch {
	case c == '"':
		return `\"`
	case c == '\\':
		return `\\`
	case c == 0x0a:
		return `\n`
	case c == 0x0d:
		return `\r`
	case c == 0x09:
		return `\t`
	case c >= 0x20 && c <= 0x7e:
		return string(rune(c))
	}
	return `\x` + hex[c/16:c/16+1] + hex[c%16:c%16+1]
}

func TestQuoteOfEveryByte(t *testing.T) {
	if got := text.Quote(""); got != `""` {
		t.Errorf("Quote of nothing: %q", got)
	}
	all, want := "", ""
	for c := range 256 {
		s := string([]byte{byte(c)})
		if got := text.Quote(s); got != `"`+quoted(byte(c))+`"` {
			t.Errorf("Quote(%q) = %q, want %q within quotes", s, got, quoted(byte(c)))
		}
		if got := text.Quote("a" + s + "b"); got != `"a`+quoted(byte(c))+`b"` {
			t.Errorf("Quote of %q within others: %q", s, got)
		}
		all, want = all+s, want+quoted(byte(c))
	}
	if got := text.Quote(all); got != `"`+want+`"` {
		t.Errorf("Quote of all bytes: %q", got)
	}
	for s, want := range map[string]string{
		"\x00": `"\x00"`, "\x07": `"\x07"`, "\x08": `"\x08"`, "\x0b": `"\x0b"`, "\x0c": `"\x0c"`, "\x1b": `"\x1b"`, "\x1f": `"\x1f"`, " ": `" "`, "~": `"~"`, "\x7f": `"\x7f"`, "\x80": `"\x80"`, "\xab": `"\xab"`,
		"é": `"\xc3\xa9"`, "日": `"\xe6\x97\xa5"`, "'": `"'"`, "`": "\"`\"", "\n\r\t": `"\n\r\t"`, `\n`: `"\\n"`, `""`: `"\"\""`,
	} {
		if got := text.Quote(s); got != want {
			t.Errorf("Quote(%q) = %s, want %s", s, got, want)
		}
	}
}

func TestUnquoteReversesQuote(t *testing.T) {
	for a := range 256 {
		unquotes(t, text.Quote(string([]byte{byte(a)})), string([]byte{byte(a)}))
		for b := range 256 {
			s := string([]byte{byte(a), byte(b)})
			if got, e, n := text.Unquote(text.Quote(s)); got != s || e != api.OK || n != len(text.Quote(s)) {
				t.Errorf("Unquote(Quote(%q)) = %q, %v, %d", s, got, e, n)
			}
		}
	}
	d := dice(47)
	for range 2000 {
		s := d.bytes(d.below(1 + d.below(300)))
		unquotes(t, text.Quote(s), s)
	}
}

func TestUnquoteOfPlainBytes(t *testing.T) {
	for c := range 256 {
		s := string([]byte{'a', byte(c), 'b'})
		if c != '`' {
			unquotes(t, "`"+s+"`", s)
		}
		for _, q := range []string{`"`, "'"} {
			switch {
			case c == '\\':
				unquotes(t, q+`a\b`+q, "a\b")
			case c == '\n':
				breaks(t, q+s+q, 2)
				breaks(t, q+s, 2)
			case string(rune(c)) != q:
				unquotes(t, q+s+q, s)
			}
		}
	}
	for _, q := range []string{`"`, "'", "`"} {
		unquotes(t, q+q, "")
		unquotes(t, q+"日本 é"+q, "日本 é")
	}
	unquotes(t, "`a\\nb\n\\`", "a\\nb\n\\")
	unquotes(t, "`\\x4`", `\x4`)
	unquotes(t, "`\\q\"'`", `\q"'`)
}

// Each of the three quotes ends what it begins, and is a byte as any other one in what the others begin.
func TestUnquoteOfQuotesWithinQuotes(t *testing.T) {
	quotes := []string{`"`, "'", "`"}
	for _, outer := range quotes {
		for _, inner := range quotes {
			s := outer + "a" + inner + "b" + outer
			if inner == outer {
				if got, e, n := text.Unquote(s); got != "a" || e != api.OK || n != 3 {
					t.Errorf("Unquote(%q) = %q, %v, %d", s, got, e, n)
				}
			} else {
				unquotes(t, s, "a"+inner+"b")
				unquotes(t, outer+inner+inner+outer, inner+inner)
			}
			if outer == "`" {
				continue
			}
			escaped := outer + "a\\" + inner + "b" + outer
			if inner == "`" {
				breaks(t, escaped, 2)
			} else {
				unquotes(t, escaped, "a"+inner+"b")
			}
		}
	}
	// Between backquotes a backslash keeps no quote from ending it.
	if got, e, n := text.Unquote("`a\\`b`"); got != `a\` || e != api.OK || n != 4 {
		t.Errorf("%q, %v, %d", got, e, n)
	}
}

func TestUnquoteOfEachEscape(t *testing.T) {
	for _, q := range []string{`"`, "'"} {
		for c := range 256 {
			s := q + `\` + string([]byte{byte(c)})
			if i := strings.IndexByte(`abfnrtv\'"`, byte(c)); i >= 0 {
				want := "\x07\x08\x0c\x0a\x0d\x09\x0b\\'\""[i : i+1]
				unquotes(t, s+q, want)
				unquotes(t, s+"z"+q, want+"z")
				breaks(t, s, 3)
				continue
			}
			if strings.IndexByte("xuU01234567", byte(c)) >= 0 {
				breaks(t, s, 3)
			} else {
				breaks(t, s, 1)
			}
			breaks(t, s+q, 1)
			breaks(t, s+"zzzzzzzz"+q, 1)
		}
		unquotes(t, q+`\\\'\"\a`+q, "\\'\"\a")
		unquotes(t, q+`\\n`+q, `\n`)
	}
}

func TestUnquoteOfValues(t *testing.T) {
	hex := []string{"0123456789abcdef", "0123456789ABCDEF"}
	for c := range 256 {
		want := string([]byte{byte(c)})
		for _, high := range hex {
			for _, low := range hex {
				unquotes(t, `"\x`+high[c/16:c/16+1]+low[c%16:c%16+1]+`"`, want)
			}
		}
		octal := string([]byte{'\\', byte('0' + c/64), byte('0' + c/8%8), byte('0' + c%8)})
		unquotes(t, "'"+octal+"'", want)
		unquotes(t, `"`+octal+`1"`, want+"1")
	}
	for v := 256; v < 512; v++ {
		octal := string([]byte{'\\', byte('0' + v/64), byte('0' + v/8%8), byte('0' + v%8)})
		breaks(t, `"ab`+octal+`"`, 3)
		breaks(t, `"ab`+octal, 3)
	}
	unquotes(t, `"\377"`, "\xff")
	breaks(t, `"\400"`, 1)
	unquotes(t, `"\x414"`, "A4")
	unquotes(t, `"\1018"`, "A8")
}

func TestUnquoteOfCodePoints(t *testing.T) {
	points := []int{0, 1, 0x0a, 0x22, 0x41, 0x5c, 0x7f, 0x80, 0xe9, 0x7ff, 0x800, 0x20ac, 0xabcd, 0xd7ff, 0xe000, 0xfffd, 0xffff, 0x10000, 0x1f600, 0xfffff, 0x100000, 0x10fffe, 0x10ffff}
	for v := 0; v < 0x110000; v += 509 {
		points = append(points, v)
	}
	for _, v := range points {
		if v >= 0xd800 && v <= 0xdfff {
			continue
		}
		want := utf8.AppendRune(nil, rune(v))
		digits := strconv.FormatInt(int64(v), 16)
		long := strings.Repeat("0", 8-len(digits)) + digits
		unquotes(t, `"\U`+long+`"`, string(want))
		unquotes(t, `'\U`+strings.ToUpper(long)+`0'`, string(want)+"0")
		if len(digits) <= 4 {
			unquotes(t, `"\u`+long[4:]+`"`, string(want))
			unquotes(t, `"\u`+strings.ToUpper(long[4:])+`f"`, string(want)+"f")
		}
	}
	unquotes(t, `"\u20ac"`, "\xe2\x82\xac")
	unquotes(t, `"\U0001f600"`, "\xf0\x9f\x98\x80")
	unquotes(t, `"\ud7ff\ue000"`, "\xed\x9f\xbf\xee\x80\x80")
	unquotes(t, `"\U0010ffff"`, "\xf4\x8f\xbf\xbf")
	for _, s := range []string{`\ud800`, `\uD800`, `\ud801`, `\udbff`, `\udc00`, `\udfff`, `\uDFFF`, `\U0000d800`, `\U0000dfff`, `\U00110000`, `\U0011ffff`, `\U00200000`, `\U0100ffff`, `\U10000000`, `\U10000041`, `\U7fffffff`, `\U80000000`, `\U80000041`, `\UFFFFFFFF`, `\Uffffff41`, `\ud83d\ude00`} {
		breaks(t, `"`+s+`"`, 1)
		breaks(t, `'ab`+s+`'`, 3)
		// The escape is whole, and wrong by its value: that is told before the end is.
		breaks(t, `"`+s, 1)
	}
}

// A string that breaks off anywhere breaks at its end, also within an escape.
func TestUnquoteOfWhatBreaksOff(t *testing.T) {
	for _, s := range []string{
		`"a\n\\\"\'b\x41\xfF\101\377\000\u20ac\uABCD\U0001f600\U0010FFFF c"`,
		`'a\n\\\"\'b\x41\xfF\101\377\000\u20ac\uABCD\U0001f600\U0010FFFF c'`,
		"`a\\n\n\\x4 '\"c`",
	} {
		if _, e, n := text.Unquote(s); e != api.OK || n != len(s) {
			t.Errorf("Unquote(%q): %v, %d", s, e, n)
		}
		for size := 1; size < len(s); size++ {
			breaks(t, s[:size], size)
		}
	}
	// What the digits so far would come to does not matter.
	for _, s := range []string{`"\4`, `"\7`, `"\40`, `"\77`, `"\ud`, `"\ud8`, `"\ud80`, `"\udff`, `"\Uf`, `"\Uff`, `"\Uffff`, `"\Ufffffff`, `"\U0011`, `"\U0011000`, `"\U0000d80`, `"\x`, `"\xf`, `"\`, `'\`, `"`, "'", "`"} {
		breaks(t, s, len(s))
	}
}

// A byte that can't stand in an escape is told by where the escape begins, whatever it is and wherever the string ends.
func TestUnquoteOfBrokenEscapes(t *testing.T) {
	for _, x := range []struct {
		head   string
		digits int
		octal  bool
	}{{`\x`, 2, false}, {`\u`, 4, false}, {`\U`, 8, false}, {`\0`, 2, true}, {`\3`, 2, true}, {`\7`, 2, true}} {
		for have := range x.digits {
			for c := range 256 {
				isHex := strings.IndexByte("0123456789abcdefABCDEF", byte(c)) >= 0
				isOctal := c >= '0' && c <= '7'
				if isOctal || isHex && !x.octal {
					continue
				}
				s := `"é` + x.head + strings.Repeat("0", have) + string([]byte{byte(c)})
				breaks(t, s, 3)
				breaks(t, s+`"`, 3)
				breaks(t, s+`00000000"`, 3)
			}
		}
	}
}

// The first error is told.
func TestUnquoteTellsTheFirstError(t *testing.T) {
	breaks(t, "\"a\n\\q", 2)
	breaks(t, "\"a\\q\n", 2)
	breaks(t, `"a\qb\z"`, 2)
	breaks(t, "\"\\n\n", 3)
	breaks(t, "\"\\\n\"", 1)
	breaks(t, "'\\x4\n'", 1)
	breaks(t, "\"\n\"", 1)
	breaks(t, "'\n", 1)
	breaks(t, `"\u12"`, 1)
	breaks(t, `"\12"`, 1)
	breaks(t, "x\n\\q", 0)
	breaks(t, "\n", 0)
	breaks(t, "\\", 0)
	breaks(t, ` "a"`, 0)
	for c := range 256 {
		if strings.IndexByte("\"'`", byte(c)) < 0 {
			breaks(t, string([]byte{byte(c)})+`a"`, 0)
		}
	}
	breaks(t, "“a”", 0)
}

// unquoted is what the chapter says of Unquote, word for word: by the bytes that each escape consists of.
func unquoted(s string) (string, api.Errno, int) {
	if s == "" || strings.IndexByte("\"'`", s[0]) < 0 {
		return "", api.ErrTextQuote, 0
	}
	got := ""
	for i := 1; i < len(s); {
		switch {
		case s[i] == s[0]:
			return got, api.OK, i + 1
		case s[0] == '`' || s[i] != '\\' && s[i] != '\n':
			got += s[i : i+1]
			i++
		case s[i] == '\n':
			return "", api.ErrTextQuote, i
		default:
			means, size, isWhole := escapeOf(s[i:])
			if !isWhole {
				return "", api.ErrTextQuote, len(s)
			}
			if size == 0 {
				return "", api.ErrTextQuote, i
			}
			got += means
			i += size
		}
	}
	return "", api.ErrTextQuote, len(s)
}

// escapeOf is what an escape stands for, and its size: 0 if it is invalid. It isn't whole if the string ends where it could go on.
func escapeOf(s string) (means string, size int, isWhole bool) {
	if len(s) == 1 {
		return "", 0, false
	}
	if i := strings.IndexByte(`abfnrtv\'"`, s[1]); i >= 0 {
		return "\x07\x08\x0c\x0a\x0d\x09\x0b\\'\""[i : i+1], 2, true
	}
	digits, from, base := "0123456789abcdefABCDEF", 2, 16
	switch s[1] {
	case 'x':
		size = 4
	case 'u':
		size = 6
	case 'U':
		size = 10
	default:
		digits, size, from, base = "01234567", 4, 1, 8
	}
	for i := from; i < size; i++ {
		if i == len(s) {
			return "", 0, false
		}
		if strings.IndexByte(digits, s[i]) < 0 {
			return "", 0, true
		}
	}
	v, err := strconv.ParseUint(s[from:size], base, 64)
	switch {
	case err != nil:
		panic(err)
	case size == 4 && v <= 255:
		return string([]byte{byte(v)}), size, true
	case size > 4 && v <= 0x10ffff && (v < 0xd800 || v > 0xdfff):
		return string(rune(v)), size, true
	}
	return "", 0, true
}

// All strings of a few of the bytes that matter are read as the chapter says.
func TestUnquoteOfAllShortTexts(t *testing.T) {
	check := func(s string) {
		want, errno, at := unquoted(s)
		if got, e, n := text.Unquote(s); got != want || e != errno || n != at {
			t.Errorf("Unquote(%q) = %q, %v, %d, want %q, %v, %d", s, got, e, n, want, errno, at)
		}
	}
	var grow func(s, letters string, left int)
	grow = func(s, letters string, left int) {
		check(s)
		if left == 0 || t.Failed() {
			return
		}
		for i := range len(letters) {
			grow(s+letters[i:i+1], letters, left-1)
		}
	}
	grow("", "\"'`\\nx4g8\n", 5)
	for _, head := range []string{`"\`, `'\`} {
		grow(head, "0378dfxuUn\\\"", 5)
	}
	grow(`"\ud`, `078dfF"`, 5)
	grow(`"\U0010fff`, `0f"g`, 4)
	grow(`"\U0011`, `0f"`, 5)
	d := dice(53)
	const letters = "\"'`\\\\\\\\nxuU0123489abcdefABCDEFg\n"
	for range 100000 {
		s := `"`
		if d.below(3) == 0 {
			s = "'"
		}
		for range d.below(24) {
			s += letters[d.below(len(letters)):][:1]
		}
		check(s)
	}
}

// A long string is read as well.
func TestQuotesOfALongString(t *testing.T) {
	s := strings.Repeat("\x00é\"\\a", 1<<16)
	unquotes(t, text.Quote(s), s)
	breaks(t, `"`+strings.Repeat("a", 1<<20), 1<<20+1)
}

// Whatever the bytes are, there is an answer or an error.
func TestAnyBytesHaveAnAnswer(t *testing.T) {
	d := dice(59)
	for range 20000 {
		s := d.bytes(d.below(12))
		asTheChapter(t, s)
		readDuration.asTheChapter(t, s)
		readTime.asTheChapter(t, s)
		want, errno, at := unquoted(s)
		if got, e, n := text.Unquote(s); got != want || e != errno || n != at {
			t.Errorf("Unquote(%q) = %q, %v, %d, want %q, %v, %d", s, got, e, n, want, errno, at)
		}
		unquotes(t, text.Quote(s), s)
	}
}
