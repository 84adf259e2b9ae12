package match_test

import (
	"regexp"
	"slices"
	"strings"
	"testing"

	"barograph/api"
	"barograph/labels"
	"barograph/match"
)

// pattern is one of few bytes, which may be wrong.
func (d *dice) pattern() string {
	s := ""
	for range d.below(6) {
		s += d.oneOf("a", "b", "x", ".", ".*", ".+", "a*", "b+?", "[ab]", "[^x]", "|", "(a|b)", "(?:x|)", "x{2}", "^", "$", `\.`, `\d`, "\xff", "\n")
	}
	if d.below(8) == 0 {
		s += d.oneOf("(", ")", "[", "**", `\q`, "{2}", "(?:a{1000}){2}")
	}
	return s
}

// matcher is a drawn one; one in some is none.
func (d *dice) matcher() api.Matcher {
	m := one(uint8(1+d.below(4)), d.oneOf("a", "b", "c", "__name__", "z9"), d.oneOf("", "a", "b", "x", "xx", "ab", "\xff", "\x00", `"`))
	if d.below(2) == 0 {
		m.Value = d.pattern()
	}
	switch d.below(30) {
	case 0:
		m.Kind = uint8(d.below(256))
	case 1:
		m.Name = d.oneOf("", "1", "a b", "\xff", strings.Repeat("n", 1025))
	case 2:
		m.Name = strings.Repeat("n", 1+d.below(1024))
	case 3:
		m.Value = strings.Repeat(d.oneOf("a", "(", "\xff"), d.below(1100))
	case 4:
		m.Value = d.bytes(d.below(40))
	case 5:
		m.Value = strings.Repeat("a", 498+d.below(6))
	}
	return m
}

// value is a drawn one, of bytes that drawn matchers ask for.
func (d *dice) value() string {
	s := ""
	for range d.below(5) {
		s += d.oneOf("a", "b", "x", ".", "1", "\xff", "\n", "\x00")
	}
	return s
}

// labels are drawn ones, a set or not.
func (d *dice) labels() []api.Label {
	var l []api.Label
	for range d.below(6) {
		l = append(l, api.Label{Name: d.oneOf("a", "b", "c", "__name__", "z9", "", "1"), Value: d.value()})
	}
	if made, errno := labels.Set(l); errno == api.OK {
		return made
	}
	return l
}

// Every call says of drawn matchers and values what the chapter says of it.
func TestDrawnMatchersAsTheChapter(t *testing.T) {
	d := dice(7)
	told := map[api.Errno]int{}
	fits := map[bool]int{}
	for range 30000 {
		m := d.matcher()
		errno := checkOf(m)
		told[errno]++
		checks(t, m, errno)
		prints(t, m, printOf(m))
		for _, value := range []string{"", m.Value, d.value(), d.value(), d.value()} {
			want := isOf(m, value)
			is(t, m, value, want)
			fits[want]++
		}
		if t.Failed() {
			return
		}
	}
	for _, errno := range []api.Errno{api.OK, api.ErrMatchForm, api.ErrRegexForm, api.ErrRegexLong} {
		if told[errno] < 300 {
			t.Errorf("%v holds of %d drawn matchers only", errno, told[errno])
		}
	}
	if fits[true] < 20000 || fits[false] < 20000 {
		t.Errorf("%d values fit, %d do not", fits[true], fits[false])
	}
}

func TestDrawnListsAsTheChapter(t *testing.T) {
	d := dice(11)
	told := map[api.Errno]int{}
	fits := map[bool]int{}
	for range 20000 {
		var l []api.Matcher
		for range d.below(1 + d.below(1+d.below(40))) {
			l = append(l, d.matcher())
		}
		if d.below(50) == 0 {
			l = append(l, many(31+d.below(4))...)
		}
		s := d.labels()
		want := allOf(l, s)
		all(t, l, s, want)
		fits[want]++
		b, errno := encodeOf(l)
		told[errno]++
		if errno == api.OK {
			encodes(t, l, b)
			decodes(t, b, l, len(b))
			decodes(t, append(b, d.bytes(d.below(20))...), l, len(b))
		} else {
			encodeFails(t, l, errno)
			decodeFails(t, raw(l))
		}
		if t.Failed() {
			return
		}
	}
	for _, errno := range []api.Errno{api.OK, api.ErrArg, api.ErrMatchForm, api.ErrRegexForm, api.ErrRegexLong} {
		if told[errno] < 100 {
			t.Errorf("%v holds of %d drawn lists only", errno, told[errno])
		}
	}
	if fits[true] < 4000 || fits[false] < 4000 {
		t.Errorf("%d sets fit, %d do not", fits[true], fits[false])
	}
}

// For every value, a kind and its opposite say the opposite, if Check has nothing to say; if it has, both say no.
func TestOppositeKindsSayTheOpposite(t *testing.T) {
	d := dice(13)
	opposites := 0
	for range 20000 {
		m := d.matcher()
		m.Kind = uint8(1 + 2*d.below(2))
		other := one(m.Kind+1, m.Name, m.Value)
		if match.Check(m) != match.Check(other) {
			t.Fatalf("Check(%s) = %v, but %v of its opposite", shown(m), match.Check(m), match.Check(other))
		}
		isOne := match.Check(m) == api.OK
		if isOne {
			opposites++
		}
		for _, value := range []string{"", m.Value, d.value(), d.bytes(d.below(4)), d.value() + m.Value} {
			first, second := match.Is(m, value), match.Is(other, value)
			if isOne && first == second || !isOne && (first || second) {
				t.Fatalf("%s and its opposite on %q: %v and %v", shown(m), value, first, second)
			}
		}
		if isOne && match.Empty(m) == match.Empty(other) {
			t.Fatalf("%s and its opposite: both %v", shown(m), match.Empty(m))
		}
	}
	if opposites < 10000 {
		t.Errorf("only %d", opposites)
	}
}

// Decode reverses Encode, for names and values of any bytes and of any length.
func TestDecodeReversesEncode(t *testing.T) {
	d := dice(17)
	for range 4000 {
		var l []api.Matcher
		for range d.below(33) {
			m := one(uint8(1+d.below(2)), "_"+strings.Repeat(d.oneOf("a", "Z", "0"), d.below(1+d.below(1024))), d.bytes(d.below(1+d.below(1025))))
			if d.below(3) == 0 {
				m.Kind, m.Value = uint8(3+d.below(2)), strings.Repeat(d.oneOf("a", "\x00", "\xff", "é", "[x]"), d.below(100))
			}
			l = append(l, m)
		}
		b, errno := match.Encode(l)
		if errno != api.OK {
			t.Fatalf("Encode(%s): %v", shown(l...), errno)
		}
		decodes(t, b, l, len(b))
		decodes(t, append(b, d.bytes(d.below(9))...), l, len(b))
		if again, _ := match.Encode(l); !slices.Equal(again, b) {
			t.Fatalf("Encode(%s) says two things", shown(l...))
		}
		if t.Failed() {
			return
		}
	}
}

// What Decode says of drawn bytes that are nearly an encoding is what the chapter says of it.
func TestDrawnBytesAsTheChapter(t *testing.T) {
	d := dice(19)
	told := map[bool]int{}
	for range 20000 {
		var l []api.Matcher
		for range d.below(4) {
			l = append(l, one(uint8(1+d.below(4)), d.oneOf("a", "bc"), d.oneOf("", "x", "x*", "\x01\x00")))
		}
		b := raw(l)
		for range d.below(3) {
			switch at := d.below(len(b)); d.below(4) {
			case 0:
				b[at] = byte(d.below(256))
			case 1:
				b[at] = byte(d.below(5))
			case 2:
				b = slices.Insert(b, at, byte(d.below(5)))
			case 3:
				b = append(slices.Delete(b, at, at+1), byte(d.below(3)))
			}
		}
		_, _, errno := decodeOf(b)
		told[errno == api.OK]++
		decodesAsTheChapter(t, b)
		if t.Failed() {
			return
		}
	}
	if told[true] < 3000 || told[false] < 3000 {
		t.Errorf("%d are encodings, %d are none", told[true], told[false])
	}
}

// What fits a pattern is told by the library's patterns too, for those that both take.
func TestDrawnPatternsAgainstTheLibrary(t *testing.T) {
	d := dice(23)
	both, found := 0, 0
	for range 10000 {
		m := re("a", strings.ReplaceAll(d.pattern(), "\xff", "z"))
		other, err := regexp.Compile(`^(?s:` + m.Value + `)$`)
		if match.Check(m) != api.OK || err != nil {
			continue
		}
		both++
		for range 5 {
			value := strings.ReplaceAll(d.value(), "\xff", "z")
			want := other.MatchString(value)
			is(t, m, value, want)
			is(t, nr("a", m.Value), value, !want)
			if want {
				found++
			}
		}
		if t.Failed() {
			return
		}
	}
	if both < 5000 || found < 5000 {
		t.Errorf("only %d patterns are both's, and %d values fit", both, found)
	}
}

// The order of the matchers does not matter to All, nor does one that is there twice; and All of two lists is that of both.
func TestAllIsThatOfItsParts(t *testing.T) {
	d := dice(29)
	for range 10000 {
		var l []api.Matcher
		for range d.below(6) {
			l = append(l, d.matcher())
		}
		s := d.labels()
		want := true
		for _, m := range l {
			want = want && match.Is(m, labels.Get(s, m.Name))
		}
		all(t, l, s, want)
		all(t, slices.Concat(l, l), s, want)
		at := d.below(len(l) + 1)
		all(t, slices.Concat(l[at:], l[:at]), s, want)
		if got := match.All(l[:at], s) && match.All(l[at:], s); got != want {
			t.Errorf("the parts of %s: %v, want %v", shown(l...), got, want)
		}
		slices.Reverse(l)
		all(t, l, s, want)
		if t.Failed() {
			return
		}
	}
}
