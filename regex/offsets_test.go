package regex_test

import (
	"slices"
	"strings"
	"testing"

	"barograph/api"
	"barograph/regex"
)

// patterns have each thing that a pattern may have.
func patterns() []string {
	return []string{
		"abc", "a|b|", "a.b", "^a$", `\n\d\.`, `\\x`,
		"[abc]", "[^a-z]", "[-a]", "[^-]", "[a-]", "[--0]", "[+--]", `[\d-]`, `[a-c\W]`, `[\]-a]x`, `[\n-\r]*`, "[[]", "[^]-]", "[a-c-]b",
		"a*b+c?", "a*?b+?", "a??", "a{2}b", "a{2,}", "a{1,3}?", "a{1000,1000}", "a{0999}", "(a){02,10}x",
		"(a)", "()", "(?:a)", "(?:a|(b))", "((a)|b)*", "a(b|c)*d", "(?:)?",
	}
}

// Every beginning of a pattern is one, or ends too early, or is told where it goes wrong.
func TestPatternsCutShort(t *testing.T) {
	for _, pattern := range patterns() {
		for i := range len(pattern) + 1 {
			compilesAsTheChapter(t, pattern[:i])
			compilesAsTheChapter(t, pattern[i:])
		}
	}
	// By hand: at each of these places a pattern can be cut that way.
	for _, pattern := range []string{"(", "(a", "(a|", "(?", "(?:", "[", "[^", "[a", "[a-", "[a-z", "[a-z-", `[\`, `[\d-`, `[a-\`, `\`, "a{", "a{1", "a{12", "a{1,", "a{1,2", "(a{1,", "([a-", `((\`} {
		breaks(t, pattern, len(pattern))
		breaks(t, "x*|"+pattern, 3+len(pattern))
	}
}

// Each byte of a pattern is changed to each other one.
func TestPatternsWithAChangedByte(t *testing.T) {
	for _, pattern := range patterns() {
		t.Run(pattern, func(t *testing.T) {
			t.Parallel()
			for i := range len(pattern) {
				for c := range 256 {
					compilesAsTheChapter(t, pattern[:i]+byteText(byte(c))+pattern[i+1:])
				}
			}
		})
	}
}

// A byte is put in at each place of a pattern, or taken away.
func TestPatternsWithAByteMoreOrLess(t *testing.T) {
	for _, pattern := range patterns() {
		for i := range len(pattern) {
			compilesAsTheChapter(t, pattern[:i]+pattern[i+1:])
			for _, c := range `\.[]()|*+?{}^$-,:019anqD` + "\x00\xff\n" {
				compilesAsTheChapter(t, pattern[:i]+byteText(byte(c))+pattern[i:])
			}
		}
	}
}

// All short patterns of the bytes on which the form hangs.
func TestAllShortPatterns(t *testing.T) {
	for _, x := range []struct {
		bytes string
		most  int
	}{{`a()|*?:`, 5}, {`a{},019`, 5}, {`[]^-az\d`, 5}, {`[]-+\n,d`, 5}, {`a\.^$n`, 4}} {
		t.Run(x.bytes, func(t *testing.T) {
			t.Parallel()
			var grow func(pattern string, left int)
			grow = func(pattern string, left int) {
				compilesAsTheChapter(t, pattern)
				if left == 0 || t.Failed() {
					return
				}
				for i := range len(x.bytes) {
					grow(pattern+x.bytes[i:i+1], left-1)
				}
			}
			grow("", x.most)
			grow("[", x.most-1)
			grow("a{", x.most-2)
			grow("a{100", x.most-3)
			grow("[a-c", x.most-2)
		})
	}
}

// What comes behind the place at which a pattern goes wrong is of no matter.
func TestWhatFollowsAFault(t *testing.T) {
	for _, x := range []struct {
		pattern string
		offset  int
	}{{")", 0}, {"a**", 2}, {"a{2,1}", 5}, {"a{1001}", 6}, {"[z-a]", 3}, {`\q`, 1}, {`[\d-x]`, 3}, {`[a-\d]`, 3}, {"[a-c-e]", 4}, {"(?x", 2}, {"[]", 1}, {"a{x", 2}, {"]", 0}} {
		for _, behind := range []string{"", "a", "]", ")", `\`, "(((", "a{1001}", "[z-a]", "{1}", strings.Repeat("(a)", 150)} {
			breaks(t, x.pattern+behind, x.offset)
			breaks(t, "a|b"+x.pattern+behind, 3+x.offset)
		}
	}
}

// The first fault is told, of whatever kind.
func TestFirstFaultIsTold(t *testing.T) {
	faults := []struct {
		pattern string
		offset  int
	}{{"b)", 1}, {"b**", 2}, {"b{2,1}", 5}, {"b{1001}", 6}, {"[z-a]", 3}, {`\q`, 1}, {`[\d-x]`, 3}, {`[b-\d]`, 3}, {"(?x)", 2}, {"b{00000}", 6}}
	for _, x := range faults {
		for _, y := range faults {
			breaks(t, "a"+x.pattern+y.pattern, 1+x.offset)
		}
	}
}

// drawnPattern is a pattern that mostly has the form.
func (d *dice) drawnPattern(depth int) string {
	s := ""
	for range 1 + d.below(3) {
		s += d.drawnAtom(depth)
		if d.below(2) == 0 {
			s += d.drawnCount()
		}
		if d.below(6) == 0 {
			s += "|"
		}
	}
	return s
}

func (d *dice) drawnAtom(depth int) string {
	switch d.below(9) {
	case 0, 1, 2:
		return d.oneOf("a", "b", "a", "b", ".", "-", ",", "1", "\x00", "\xff")
	case 3:
		return d.oneOf("^", "$")
	case 4:
		return `\` + d.oneOf("d", "w", "s", "D", "W", "S", "n", "t", "r", ".", `\`, "-", "]", "_", "*")
	case 5:
		return d.drawnClass()
	}
	if depth == 0 {
		return "b"
	}
	return d.oneOf("(", "(", "(?:") + d.drawnPattern(depth-1) + ")"
}

func (d *dice) drawnCount() string {
	n := func() string {
		return d.oneOf("0", "1", "2", "3", "1", "2", "00", "02", "0003", "10", "999", "1000", "1001", "00001")
	}
	count := d.oneOf("*", "+", "?", "*", "+", "?", "{"+n()+"}", "{"+n()+",}", "{"+n()+","+n()+"}")
	return count + d.oneOf("", "", "", "?")
}

func (d *dice) drawnClass() string {
	s := "[" + d.oneOf("", "", "^")
	for range 1 + d.below(4) {
		s += d.oneOf("a", "b", "c", "z", "-", "-", "a-c", "b-z", "+--", "z-a", `\d`, `\W`, `\n`, `\]`, `\-`, "[", "^", "\x80-\xff", `\t-\r`)
	}
	return s + d.oneOf("", "", "-") + "]"
}

func TestDrawnPatternsAsTheChapter(t *testing.T) {
	told := map[string]int{}
	for seed := range dice(8) {
		d := seed + 100
		for range 1200 {
			pattern := d.drawnPattern(3)
			if d.below(3) == 0 {
				i := d.below(len(pattern))
				pattern = pattern[:i] + d.oneOf("", byteText(byte(d.below(256))), ")", "]", "*", "(") + pattern[i+d.below(2):]
			}
			compilesAsTheChapter(t, pattern)
			_, errno, _ := compileOf(pattern)
			told[errno.Error()]++
		}
	}
	for _, errno := range []string{"errno 0", "errno 80", "errno 81"} {
		if told[errno] < 300 {
			t.Errorf("%s holds of %d drawn patterns only", errno, told[errno])
		}
	}
}

// Each beginning of a pattern can be gone on with: it is a pattern too, or ends too early.
func TestBeginningsOfDrawnPatterns(t *testing.T) {
	d := dice(41)
	cuts := 0
	for range 3000 {
		pattern := d.drawnPattern(3)
		if _, errno, _ := regex.Compile(pattern); errno == api.ErrRegexForm {
			continue
		}
		for i := range len(pattern) {
			switch _, errno, at := regex.Compile(pattern[:i]); {
			case errno == api.ErrRegexForm && at == i:
				cuts++
			case errno == api.ErrRegexForm || at != 0:
				t.Errorf("%q, cut to %q: %v, %d", pattern, pattern[:i], errno, at)
			}
		}
	}
	if cuts < 3000 {
		t.Errorf("only %d beginnings end too early", cuts)
	}
}

// Any bytes are a pattern, or an error.
func TestPatternsOfAnyBytes(t *testing.T) {
	d := dice(5)
	for range 6000 {
		compilesAsTheChapter(t, d.text(12, allBytes()))
		compilesAsTheChapter(t, d.text(12, `ab()[]{}|*+?^$.\-,:0123dq`))
		compilesAsTheChapter(t, "["+d.text(8, `ab[]^-\dn`+"\xff"))
	}
	for range 40 {
		compilesAsTheChapter(t, d.text(520, `ab()[]{}|*+?^$.\-,:0123dq`))
		compilesAsTheChapter(t, strings.Repeat("(", d.below(130))+d.text(300, "a()|"))
	}
}

// The words by which the tests read a pattern are those that the chapter names.
func TestWordsOfPatterns(t *testing.T) {
	all, ok := wordsOf(`a(b|[^c-e\]-])*?\d{2,3}`)
	var texts []string
	for _, w := range all {
		texts = append(texts, w.text)
	}
	if !ok || !slices.Equal(texts, []string{"a", "(", "b", "|", `[^c-e\]-]`, ")", "*?", `\d`, "{2,3}"}) {
		t.Errorf("%q, %v", texts, ok)
	}
}
