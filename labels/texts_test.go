package labels_test

import (
	"slices"
	"strings"
	"testing"

	"barograph/api"
	"barograph/labels"
	"barograph/text"
)

func prints(t *testing.T, l []api.Label, want string) {
	t.Helper()
	if got := labels.Print(l); got != want {
		t.Errorf("Print = %q, want %q", short(got), short(want))
	}
}

func TestExamplesOfTexts(t *testing.T) {
	prints(t, list("a", "1", "b", "x"), `{a="1", b="x"}`)
	parses(t, `{ b="x",a="1", }`, list("a", "1", "b", "x"))
	breaks(t, `{a=1}`, 3)
	breaks(t, ``, 0)
	parses(t, `{}`, nil)
	parses(t, `{} `, nil)
	breaks(t, `{}x`, 2)
}

func TestPrint(t *testing.T) {
	prints(t, nil, `{}`)
	prints(t, []api.Label{}, `{}`)
	prints(t, list("a", "1"), `{a="1"}`)
	prints(t, list("a", "1", "b", "2", "c", "3"), `{a="1", b="2", c="3"}`)
	prints(t, list("__name__", "up", "le", "+Inf"), `{__name__="up", le="+Inf"}`)
	// Lists that are no sets.
	prints(t, list("b", "1", "a", "2", "b", "1"), `{b="1", a="2", b="1"}`)
	prints(t, list("a", ""), `{a=""}`)
	prints(t, list("", "", "", ""), `{="", =""}`)
	prints(t, list(`1 "`+"\xff", "x"), `{1 "`+"\xff"+`="x"}`)
	want := ""
	for _, x := range many(999) {
		want += `, ` + x.Name + `="v"`
	}
	prints(t, many(999), `{`+want[2:]+`}`)
}

func TestPrintOfEachByte(t *testing.T) {
	const hex = "0123456789abcdef"
	for c := range 256 {
		quoted := `\x` + hex[c>>4:c>>4+1] + hex[c&15:c&15+1]
		switch {
		case c == '"':
			quoted = `\"`
		case c == '\\':
			quoted = `\\`
		case c == 0x0a:
			quoted = `\n`
		case c == 0x0d:
			quoted = `\r`
		case c == 0x09:
			quoted = `\t`
		case c >= 0x20 && c <= 0x7e:
			quoted = string(rune(c))
		}
		s := string([]byte{byte(c)})
		prints(t, list("a", s), `{a="`+quoted+`"}`)
		prints(t, list("a", "x"+s+"y", "b", s+s), `{a="x`+quoted+`y", b="`+quoted+quoted+`"}`)
	}
}

// printed are sets of every kind.
func printed() [][]api.Label {
	d := dice(3)
	all := [][]api.Label{
		nil,
		list("a", "1"),
		list("a", "1", "b", "x"),
		list("A", `"`, "B", `\`, "_", `\"`, "a", `{b="x", }`, "a0", "}", "aa", ",", "b", " "),
		list("a", allBytes(), "b", d.bytes(1024)),
		list(strings.Repeat("a", 1024), strings.Repeat("\x00", 1024)),
		list(strings.Repeat("a", 1023), strings.Repeat(`"`, 1024), strings.Repeat("a", 1024), strings.Repeat(`\`, 1023)),
		many(63),
		many(64),
	}
	for c := range 256 {
		all = append(all, list("a", string([]byte{byte(c)}), "b", string([]byte{'x', byte(c), '"'})))
	}
	var full []api.Label
	for _, x := range many(64) {
		x.Name += strings.Repeat("_", 1024-len(x.Name))
		full = append(full, api.Label{Name: x.Name, Value: d.bytes(1024)})
	}
	return append(all, full)
}

func TestParseReversesPrint(t *testing.T) {
	for _, l := range printed() {
		parses(t, labels.Print(l), l)
		parses(t, printOf(l), l)
	}
}

// All the ways to lay blanks, or none, between the parts of a text.
func TestParseOfBlanks(t *testing.T) {
	want := list("a", " 1 ", "b", "2")
	for _, parts := range [][]string{
		{"{", "b", "=", `"2"`, ",", "a", "=", `" 1 "`, "}"},
		{"{", "b", "=", `"2"`, ",", "a", "=", `" 1 "`, ",", "}"},
	} {
		for chosen := range 1 << (len(parts) + 1) {
			s := ""
			for i := range len(parts) + 1 {
				if chosen>>i&1 == 1 {
					s += strings.Repeat(" ", 1+i%3)
				}
				if i < len(parts) {
					s += parts[i]
				}
			}
			parses(t, s, want)
		}
		parses(t, strings.Join(parts, strings.Repeat(" ", 5000)), want)
	}
	for _, s := range []string{"{}", " {}", "{ }", "{} ", "   {   }   ", strings.Repeat(" ", 5000) + "{" + strings.Repeat(" ", 5000) + "}" + strings.Repeat(" ", 5000)} {
		parses(t, s, nil)
	}
	for _, blanks := range []string{"", " ", "  ", strings.Repeat(" ", 5000)} {
		breaks(t, blanks, len(blanks))
		breaks(t, blanks+"{"+blanks, 2*len(blanks)+1)
		breaks(t, blanks+"}", len(blanks))
		breaks(t, blanks+"x", len(blanks))
		breaks(t, blanks+"{"+blanks+"}"+blanks+"x", 3*len(blanks)+2)
	}
}

// A blank within a name, and any other byte that looks like one anywhere, ends what the text could be.
func TestParseOfBlanksWhereTheyAreNone(t *testing.T) {
	breaks(t, `{a b="1"}`, 3)
	breaks(t, `{a  b="1"}`, 4)
	breaks(t, `{a_ 0="1"}`, 4)
	breaks(t, `{a="1" b="2"}`, 7)
	breaks(t, `{a="1" "2"}`, 7)
	breaks(t, `{a=" 1" 2"}`, 8)
	breaks(t, `{a= = "1"}`, 4)
	parts := []string{"{", "b", "=", `"2"`, ",", "a", "=", `"1"`, ",", "}"}
	for _, other := range []string{"\t", "\n", "\r", "\v", "\f", "\x00", "\x1f", "\x21", "\x7f", "\x85", "\xa0", "\u00a0", "\u2003", "\ufeff", "#", "/**/", ";"} {
		for i := range len(parts) + 1 {
			for _, blanks := range []string{"", "  "} {
				head := strings.Join(parts[:i], "") + blanks
				breaks(t, head+other+strings.Join(parts[i:], ""), len(head))
			}
		}
	}
}

func TestParseOfCommas(t *testing.T) {
	a, ab := list("a", "1"), list("a", "1", "b", "2")
	parses(t, `{a="1"}`, a)
	parses(t, `{a="1",}`, a)
	parses(t, `{a="1" , }`, a)
	parses(t, `{a="1",b="2"}`, ab)
	parses(t, `{a="1",b="2",}`, ab)
	parses(t, `{a="1",   b="2"   ,   }`, ab)
	breaks(t, `{,}`, 1)
	breaks(t, `{ ,}`, 2)
	breaks(t, `{,a="1"}`, 1)
	breaks(t, `{,,}`, 1)
	breaks(t, `{a="1",,}`, 7)
	breaks(t, `{a="1", ,}`, 8)
	breaks(t, `{a="1",,b="2"}`, 7)
	breaks(t, `{a="1",b="2",,}`, 13)
	breaks(t, `{a="1"b="2"}`, 6)
	breaks(t, `{a="1"},`, 7)
	breaks(t, `{},`, 2)
	breaks(t, `,{}`, 0)
	breaks(t, `{a,="1"}`, 2)
	breaks(t, `{a=,"1"}`, 3)
	breaks(t, `{a}`, 2)
	breaks(t, `{a,}`, 2)
	breaks(t, `{a=}`, 3)
	breaks(t, `{="1"}`, 1)
	breaks(t, `{"1"}`, 1)
	breaks(t, `{a=="1"}`, 3)
	breaks(t, `{a!="1"}`, 2)
	breaks(t, `{a=~"1"}`, 3)
	breaks(t, `{a:"1"}`, 2)
	breaks(t, `{a="1"="2"}`, 6)
	breaks(t, `{a="1"`+`"2"}`, 6)
	breaks(t, `{a="1";b="2"}`, 6)
	breaks(t, `{a="1"}}`, 7)
	breaks(t, `{{}`, 1)
	breaks(t, `{{a="1"}}`, 1)
	breaks(t, `{}{}`, 2)
	breaks(t, `up{a="1"}`, 0)
	breaks(t, `[a="1"]`, 0)
	breaks(t, `(a="1")`, 0)
	breaks(t, `a="1"`, 0)
	breaks(t, `{a="1")`, 6)
}

// A text that has the form has it no more when any number of bytes is cut off its end, and it isn't wrong before that.
func TestParseOfTextsCutShort(t *testing.T) {
	long := strings.Repeat("n", 1024)
	texts := []string{
		`{}`, `  {  }`, `{a="1"}`, `{a="1", b="x"}`, `{ b = "x" , a = "1" , }`, `{a=""}`, `{a="",b="",}`, `{__name__="up", a="}"}`,
		`{a="\a\b\f\n\r\t\v\\\'\""}`, `{a="\x00\xfF\000\377\u0000\uffff\U0010ffff\U0000D7FF",b="\\"}`, `{a="'` + "`" + `"}`, "{a=\"\x00\r\xff\u20ac\"}",
		`{` + long + `="x", ` + long[1:] + `="y"}`,
		printOf(list("a", strings.Repeat("x", 1024))),
	}
	for _, s := range texts {
		if _, errno, _ := labels.Parse(s); errno != api.OK {
			t.Errorf("%q is none of the texts: %v", short(s), errno)
		}
		for i := range len(s) {
			breaks(t, s[:i], i)
		}
	}
	for _, l := range printed() {
		s := labels.Print(l)
		for i := 0; i < len(s); i += 1 + i/50 {
			breaks(t, s[:i], i)
		}
		breaks(t, s[:len(s)-1], len(s)-1)
	}
	// Also where Set would have an error.
	for _, s := range []string{`{a="1",a="2"}`, printOf(many(66)), printOf(list("a", strings.Repeat("x", 1025)))} {
		for i := range len(s) {
			breaks(t, s[:i], i)
		}
	}
}

// What comes behind a text is told, and blanks alone may.
func TestParseOfWhatFollows(t *testing.T) {
	for _, s := range []string{`{}`, `{a="1"}`, `{a="1",}`, ` { a = "1" } `} {
		for c := range 256 {
			b := string([]byte{byte(c)})
			if c == ' ' {
				_, errno, at := labels.Parse(s + b)
				if errno != api.OK || at != 0 {
					t.Errorf("Parse(%q): %v, %d", s+b, errno, at)
				}
				continue
			}
			breaks(t, s+b, len(s))
			breaks(t, s+"  "+b+" ", len(s)+2)
		}
	}
}

func TestParseOfTheFirstByte(t *testing.T) {
	for c := range 256 {
		b := string([]byte{byte(c)})
		switch {
		case c == '{':
			breaks(t, b, 1)
		case c == ' ':
			breaks(t, b, 1)
			parses(t, b+"{}", nil)
		default:
			breaks(t, b, 0)
			breaks(t, b+"{}", 0)
			breaks(t, "  "+b+"{}", 2)
		}
	}
}

// Each byte stands where a name begins, within one, behind one and behind the sign.
func TestParseOfEachByteAroundNames(t *testing.T) {
	for c := range 256 {
		b := string([]byte{byte(c)})
		switch {
		case isLetter(c):
			parses(t, `{`+b+`="1"}`, list(b, "1"))
			parses(t, `{ `+b+`0="1"}`, list(b+"0", "1"))
			parses(t, `{a="1",`+b+b+`="1"}`, inOrder(b+b, "a"))
		case c == ' ' || c == '}':
		default:
			breaks(t, `{`+b+`="1"}`, 1)
			breaks(t, `{ `+b+`a="1"}`, 2)
			breaks(t, `{a="1",`+b+`="1"}`, 7)
			breaks(t, `{a="1", `+b+`="1"}`, 8)
		}
		switch {
		case isLetter(c) || isDigit(c):
			parses(t, `{a`+b+`="1"}`, list("a"+b, "1"))
			parses(t, `{a`+b+`b="1"}`, list("a"+b+"b", "1"))
			breaks(t, `{a `+b+`="1"}`, 3)
		case c == ' ' || c == '=':
		default:
			breaks(t, `{a`+b+`="1"}`, 2)
			breaks(t, `{a_0`+b+`b="1"}`, 4)
			breaks(t, `{a `+b+`="1"}`, 3)
		}
		if c != ' ' && c != '"' {
			breaks(t, `{a=`+b+`"1"}`, 3)
			breaks(t, `{a= `+b+`1"}`, 4)
		}
	}
}

// inOrder are the labels of two names.
func inOrder(x, y string) []api.Label { return list(min(x, y), "1", max(x, y), "1") }

func TestParseOfNames(t *testing.T) {
	breaks(t, `{1a="x"}`, 1)
	breaks(t, `{0="x"}`, 1)
	breaks(t, `{9`, 1)
	breaks(t, `{ 1a="x"}`, 2)
	breaks(t, `{a="x", 1a="x"}`, 8)
	breaks(t, `{é="x"}`, 1)
	breaks(t, `{aé="x"}`, 2)
	breaks(t, `{a.b="x"}`, 2)
	parses(t, `{_="x"}`, list("_", "x"))
	parses(t, `{a1="x"}`, list("a1", "x"))
	for _, first := range []string{"a", "Z", "_"} {
		for _, more := range []string{"a", "Z", "_", "0", "9"} {
			for _, size := range []int{1, 2, 1023, 1024} {
				name := first + strings.Repeat(more, size-1)
				parses(t, `{`+name+`="x"}`, list(name, "x"))
				parses(t, `{ `+name+`   ="x"}`, list(name, "x"))
			}
			for _, size := range []int{1025, 1026, 2048, 65536, 65537} {
				name := first + strings.Repeat(more, size-1)
				breaks(t, `{`+name+`="x"}`, 1025)
				breaks(t, `{ `+name+` ="x"}`, 1026)
				breaks(t, `{`+name, 1025)
				breaks(t, `{`+name+`}`, 1025)
				breaks(t, `{a="x", `+name+`="x"}`, 8+1024)
			}
			breaks(t, `{`+first+strings.Repeat(more, 1023), 1025)
		}
	}
	breaks(t, `{`+strings.Repeat("a", 1024)+`-="x"}`, 1025)
}

// The value is what Unquote says, up to the next quote that is no part of an escape.
func TestParseOfValues(t *testing.T) {
	for _, x := range []struct{ quoted, want string }{
		{`""`, ""},
		{`"x"`, "x"},
		{`" x "`, " x "},
		{`"'"`, "'"},
		{"\"`\"", "`"},
		{`"{a=1, }"`, "{a=1, }"},
		{`"\""`, `"`},
		{`"\\"`, `\`},
		{`"\\\""`, `\"`},
		{`"\\\\"`, `\\`},
		{`"\'"`, `'`},
		{`"\",b=\""`, `",b="`},
		{`"\a\b\f\n\r\t\v"`, "\a\b\f\n\r\t\v"},
		{`"\x00\x41\xfF"`, "\x00A\xff"},
		{`"\000\101\377"`, "\x00A\xff"},
		{`"\1011"`, "A1"},
		{`"\x411"`, "A1"},
		{`"\u0041\u00e9\uFFFF\ud7ff\ue000"`, "A\u00e9\uffff\ud7ff\ue000"},
		{`"\U00000041\U0010ffff"`, "A\U0010ffff"},
		{"\"\x00\t\r\v\x7f\x80\xff\u20ac\"", "\x00\t\r\v\x7f\x80\xff\u20ac"},
		{`"` + strings.Repeat("x", 1024) + `"`, strings.Repeat("x", 1024)},
		{`"` + strings.Repeat(`\U0010ffff`, 256) + `"`, strings.Repeat("\U0010ffff", 256)},
	} {
		if got, errno, n := text.Unquote(x.quoted); got != x.want || errno != api.OK || n != len(x.quoted) {
			t.Errorf("Unquote(%q) = %q, %v, %d", x.quoted, got, errno, n)
		}
		var a []api.Label
		if x.want != "" {
			a = list("a", x.want)
		}
		parses(t, `{a=`+x.quoted+`}`, a)
		parses(t, ` { a = `+x.quoted+` , } `, a)
		parses(t, `{b="1",a=`+x.quoted+`}`, append(a, list("b", "1")...))
		parses(t, `{a=`+x.quoted+`,b=`+x.quoted+`,c="1"}`, append(both(x.want), list("c", "1")...))
		breaks(t, `{a=`+x.quoted, 3+len(x.quoted))
		breaks(t, `{a=`+x.quoted+`x`, 3+len(x.quoted))
		breaks(t, `{a=`+x.quoted+`"`, 3+len(x.quoted))
	}
}

// both are two labels of one value.
func both(value string) []api.Label {
	if value == "" {
		return nil
	}
	return list("a", value, "b", value)
}

// wrong are values without their end that Unquote rejects: each has an escape that is none, or a newline.
func wrong() []string {
	return []string{
		`"\q`, `"\ `, `"\}`, `"\,`, `"\0x`, `"\8`, `"\9`, `"\e`, `"\N`, `"\X41`, `"\x4g`, `"\xg`, `"\08`, `"\078`, `"\400`, `"\777`,
		`"\u00g`, `"\ud800`, `"\udfff`, `"\uDC00`, `"\U00110000`, `"\Uffffffff`, `"\U0000d800`, "\"\\`", "\"\\\n", "\"\\\xff", "\"\\\u00e9",
		"\"\n", "\"x\n", "\"x\ny", "\"\\n\n", `"x\"\q`, `"\\\q`, `"\q\"`, `"\q\\`, `"xxxxxxxxxxxxxxxxxxxxxx\q`,
	}
}

// lacking are values without their end whose last escape has too few digits.
func lacking() []string {
	return []string{`"\x`, `"\x4`, `"\0`, `"\07`, `"\4`, `"\40`, `"\u`, `"\u0`, `"\u004`, `"\ud8`, `"\U`, `"\U0000004`, `"\U0011`}
}

// heads are what may stand ahead of a value.
func heads() []string {
	return []string{`{a=`, `  { a =  `, `{b="1",a=`, `{b="1", a= `, `{a="1",a=`, `{b="\"",a=`, `{b="",a=`, `{b="\\",a=`}
}

// What is told is where the value begins, whatever follows its end, or if nothing does.
func TestParseOfValuesThatUnquoteRejects(t *testing.T) {
	for _, value := range slices.Concat(wrong(), lacking()) {
		for _, rest := range []string{`"`, `x"`, ` "`, "\n\"", `\""`, `\\"`, `\q\\\""`} {
			for _, behind := range []string{"", `}`, `"`, `"}`, `z`, `\`, `, b="1"}`, `, b="\`, "\n}"} {
				for _, head := range heads() {
					breaks(t, head+value+rest+behind, len(head))
				}
			}
		}
	}
	for _, s := range []string{`'1'`, "`1`", `'1`, "`1", `'`, "`", `''`, `1`, `x`, `\"1\"`, `\`, "\n", "“1”"} {
		breaks(t, `{a=`+s, 3)
		breaks(t, `{a=`+s+`}`, 3)
		breaks(t, `{a= `+s+`"}`, 4)
	}
	// A quote that opens behind a whole value isn't there to be one.
	breaks(t, `{a="1""`, 6)
	breaks(t, `{a="1"\"`, 6)
}

// The text ends within a value: the end is told, whatever Unquote says of what is there.
func TestParseOfValuesThatEndTooEarly(t *testing.T) {
	fine := []string{`"`, `"x`, `"\"`, `"\\`, `"\\\"`, `"x, b=`, `"x}`, `" `, `"'`, `"\n`, `"\x41`, `"\101`, `"\u0041`}
	for _, value := range slices.Concat(fine, wrong(), lacking()) {
		for _, rest := range []string{"", `x`, `4`, `}`, `, b=`, `'`, "`", "\n", `\`, `\q`, `\"`, `\"}`, `\\\"}`, `\\\`, "\n\\\"}"} {
			for _, head := range heads() {
				s := head + value + rest
				breaks(t, s, len(s))
			}
		}
	}
}

// Side by side: without its end the text's length is told of a value, with it where the value begins.
func TestParseOfValuesWithAndWithoutAnEnd(t *testing.T) {
	breaks(t, `{c="\}`, 6)
	breaks(t, `{c="\}"`, 3)
	breaks(t, `{a="\q`, 6)
	breaks(t, `{a="\q"`, 3)
	breaks(t, "{a=\"x\ny", 7)
	breaks(t, "{a=\"x\ny\"", 3)
	breaks(t, `{a="\ud800`, 10)
	breaks(t, `{a="\ud800"`, 3)
	breaks(t, `{a="",_="\}`, 11)
	breaks(t, `{a="",_="\}"`, 8)
	breaks(t, `{a="\q\"}`, 9)
	breaks(t, `{a="\q\"}"`, 3)
	breaks(t, `{a="\x4`, 7)
	breaks(t, `{a="\x4"`, 3)
}

// A quote ends a value unless the backslashes ahead of it are odd in number, whatever stands before them.
func TestParseOfBackslashesAheadOfAQuote(t *testing.T) {
	for n := range 40 {
		slashes := strings.Repeat(`\`, n)
		s, rejected := `{a="x`+slashes+`"}`, `{a="\q`+slashes+`"}`
		if n%2 == 0 {
			parses(t, s, list("a", "x"+slashes[:n/2]))
			breaks(t, rejected, 3)
		} else {
			breaks(t, s, len(s))
			breaks(t, rejected, len(rejected))
		}
	}
}

// With the form kept Set decides, and the length of the text is told beside its error.
func TestParseTellsSetsErrors(t *testing.T) {
	const form, twice, most = api.ErrLabelsForm, api.ErrLabelsTwice, api.ErrLabelsMany
	long := strings.Repeat("x", 1025)
	for _, x := range []struct {
		s    string
		want api.Errno
	}{
		{`{a="1",a="1"}`, twice},
		{`{a="1",a="2",}`, twice},
		{` { a = "1" , a = "" } `, twice},
		{`{a="",a=""}`, twice},
		{`{b="1",a="1",b="2"}`, twice},
		{printOf(many(65)), most},
		{printOf(many(999)) + "   ", most},
		{printOf(append(many(65), list("a", "")...)), most},
		{`{a="` + long + `"}`, form},
		{`{a="` + long + `"}  `, form},
		{`{a="1",b="` + long + `",}`, form},
		{`{a="` + strings.Repeat(`\x41`, 1025) + `"}`, form},
		{`{a="` + strings.Repeat(`\u20ac`, 342) + `"}`, form},
		{`{a="` + strings.Repeat("x", 65536) + `"}`, form},
		// Several of them.
		{`{a="1",a="` + long + `"}`, form},
		{printOf(append(many(65), list("a", long)...)), form},
		{printOf(append(many(65), list("n000", "")...)), twice},
		{printOf(append(many(65), list("n000", long)...)), form},
	} {
		parseFails(t, x.s, x.want, len(x.s))
	}
	// No form, and one of Set's errors.
	breaks(t, `{a="1",a="2"`, 12)
	breaks(t, `{a="1",a="2"}x`, 13)
	breaks(t, `{a="`+long+`";}`, 3+1027)
	s := printOf(many(65))
	breaks(t, s+"x", len(s))
	breaks(t, s[:len(s)-1]+",,}", len(s))
	// None of them.
	parses(t, printOf(append(many(64), list("a", "", "z", "")...)), many(64))
	parses(t, printOf(emptied(many(999), func(i int) bool { return i < 900 || i >= 964 })), many(999)[900:964])
	parses(t, `{a=""}`, nil)
	parses(t, `{b="2",a="",c="1"}`, list("b", "2", "c", "1"))
}

// Texts of each kind are changed at one byte, or have one more or one fewer: they are read as the chapter says.
func TestParseOfChangedTexts(t *testing.T) {
	for _, s := range []string{
		`{}`, ` { } `, `{a="1"}`, `{a="1",}`, `{a="1", b="x"}`, ` { b = "x" , a = "1" , } `, `{_0="", A="}"}`,
		`{a="\n\\\"",b=""}`, `{a="\x4a\101"}`, `{a="\u00e9"}`, `{a="\ud7ff"}`, `{a="\U0010ffff"}`,
		`{a="x`, `{a="\u00`, `{a="1" b`, `{a="1",a="1"}`,
		`{a="\q`, `{a="\q"}`, `{a="\q\"}`, "{a=\"x\ny", "{a=\"x\ny\"}", `{a="",_="\ud800"`,
	} {
		asTheChapter(t, s)
		for at := range len(s) + 1 {
			for c := range 256 {
				asTheChapter(t, s[:at]+string([]byte{byte(c)})+s[at:])
				if at < len(s) {
					asTheChapter(t, s[:at]+string([]byte{byte(c)})+s[at+1:])
				}
			}
			if at < len(s) {
				asTheChapter(t, s[:at]+s[at+1:])
			}
			asTheChapter(t, s[:at])
		}
	}
}

// All texts of a few of the bytes that the form is made of, behind beginnings of it.
func TestParseOfAllShortTexts(t *testing.T) {
	const bytes = " {}=,\"a0\\\n"
	var grow func(s string, left int)
	grow = func(s string, left int) {
		asTheChapter(t, s)
		if left == 0 || t.Failed() {
			return
		}
		for i := range len(bytes) {
			grow(s+bytes[i:i+1], left-1)
		}
	}
	grow("", 4)
	for _, head := range []string{`{a`, `{a="`, `{a="a"`, `{a="a",`, `{a="",b="\`, `{a="",b="\q`, `{ }`} {
		grow(head, 4)
	}
}

// Texts of drawn parts, most of which have the form nearly.
func TestParseOfDrawnTexts(t *testing.T) {
	parts := []string{"{", "}", "}", "=", "=", ",", ",", "a", "b", "c", "_a", "b0", "0", " ", "  ", `""`, `"1"`, `"x y"`, `"\""`, `"\x41"`, `"\q"`, `"`, `\`, "\n", "\t", "\xff", `{a="1"`, `,b="2"`, `a="1",`, `b="x"`, `c=""`, `}`}
	d := dice(5)
	fine := 0
	for range 60000 {
		s := ""
		if d.below(4) > 0 {
			s = "{"
		}
		for range d.below(12) {
			s += parts[d.below(len(parts))]
		}
		if d.below(2) > 0 {
			s += "}"
		}
		asTheChapter(t, s)
		if _, errno, _ := parseOf(s); errno == api.OK {
			fine++
		}
	}
	if fine < 1000 {
		t.Errorf("%d drawn texts only have the form", fine)
	}
}
