package match_test

import (
	"regexp"
	"slices"
	"strings"
	"testing"

	"barograph/api"
	"barograph/labels"
	"barograph/match"
	"barograph/regex"
	"barograph/text"
)

// This file has what the chapter says of the calls, word for word and without haste; the other tests hold the package against it.

// dice are numbers without a pattern, the same ones at every run.
type dice uint64

func (d *dice) number() uint64 {
	*d = *d*6364136223846793005 + 1442695040888963407
	return uint64(*d)>>33 ^ uint64(*d)<<31
}

func (d *dice) below(n int) int { return int(d.number() >> 3 % uint64(n)) }

func (d *dice) oneOf(all ...string) string { return all[d.below(len(all))] }

func (d *dice) bytes(n int) string {
	b := make([]byte, n)
	for i := range b {
		b[i] = byte(d.number() >> 20)
	}
	return string(b)
}

// Each kind of matcher.
func eq(name, value string) api.Matcher { return api.Matcher{Kind: 1, Name: name, Value: value} }
func ne(name, value string) api.Matcher { return api.Matcher{Kind: 2, Name: name, Value: value} }
func re(name, value string) api.Matcher { return api.Matcher{Kind: 3, Name: name, Value: value} }
func nr(name, value string) api.Matcher { return api.Matcher{Kind: 4, Name: name, Value: value} }

func one(kind uint8, name, value string) api.Matcher {
	return api.Matcher{Kind: kind, Name: name, Value: value}
}

// list is a list of matchers.
func list(l ...api.Matcher) []api.Matcher { return l }

// with is a new list that has one more, at that place.
func with(l []api.Matcher, at int, m api.Matcher) []api.Matcher {
	return slices.Insert(slices.Clone(l), at, m)
}

// set has labels of these names and values, in turn.
func set(s ...string) []api.Label {
	var l []api.Label
	for i := 0; i < len(s); i += 2 {
		l = append(l, api.Label{Name: s[i], Value: s[i+1]})
	}
	return l
}

// many are so many matchers that hold of a set without labels, for at most 260.
func many(n int) []api.Matcher {
	var l []api.Matcher
	for i := range n {
		name := "n" + string([]byte{byte('0' + i/100), byte('0' + i/10%10), byte('0' + i%10)})
		l = append(l, one(uint8(1+i%4), name, []string{"", "x", "x*", "x+"}[i%4]))
	}
	return l
}

// allBytes are the 256 of them.
func allBytes() string {
	b := make([]byte, 256)
	for c := range b {
		b[c] = byte(c)
	}
	return string(b)
}

// bad are matchers that are none, each with what Check says of it.
func bad() map[api.Errno][]api.Matcher {
	long := func(s string, n int) string { return strings.Repeat(s, n) }
	return map[api.Errno][]api.Matcher{
		api.ErrMatchForm: {
			{}, one(0, "a", ""), one(5, "a", ""), one(255, "a", "x"), one(129, "a", "x"),
			eq("", "x"), ne("1a", "x"), re("a b", "x"), nr("\xff", "x"), eq("a:b", ""),
			eq(long("n", 1025), "x"), re(long("n", 1025), "x"),
			eq("a", long("v", 1025)), ne("a", long("v", 1025)), re("a", long("v", 1025)), nr("a", long("v", 1025)),
		},
		api.ErrRegexForm: {re("a", "("), nr("a", "("), re("a", "[a"), nr("a", "a**"), re("a", `\q`), re("a", "x)")},
		api.ErrRegexLong: {
			re("a", long("v", 501)), nr("a", long("v", 501)), re("a", long("(", 1024)), nr("a", "(?:a{1000}){2}"), re("a", "a{1000}"),
			re("a", long("(", 101)+long(")", 101)),
		},
	}
}

// good are matchers of each kind.
func good() []api.Matcher {
	return []api.Matcher{
		eq("a", "x"), ne("a", "x"), re("a", "x.*"), nr("a", "x.*"),
		eq("a", ""), ne("a", ""), re("a", ""), nr("a", ""),
		eq("__name__", "up"), ne("_", "\x00"), re("Z9", "[^\xff]+|"), nr("job_1", `\.|\\`),
		eq("a", "("), ne("a", "a**"), eq("a", `"`), eq("a", "\n\r\t\x7f\xff"),
		eq("a", strings.Repeat("v", 1024)), ne("a", strings.Repeat("(", 1024)), re("a", strings.Repeat("v", 500)), nr("a", strings.Repeat("v", 500)),
		eq(strings.Repeat("n", 1024), "x"), nr(strings.Repeat("n", 1024), "x"), re("a", "a{999}"),
	}
}

var nameAlone = regexp.MustCompile(`^[A-Za-z_][A-Za-z0-9_]*$`)

// checkOf is what the chapter says of Check.
func checkOf(m api.Matcher) api.Errno {
	if m.Kind != 1 && m.Kind != 2 && m.Kind != 3 && m.Kind != 4 {
		return api.ErrMatchForm
	}
	if len(m.Name) > 1024 || !nameAlone.MatchString(m.Name) {
		return api.ErrMatchForm
	}
	if len(m.Value) > 1024 {
		return api.ErrMatchForm
	}
	if m.Kind == 3 || m.Kind == 4 {
		if _, errno, _ := regex.Compile(m.Value); errno != api.OK {
			return errno
		}
	}
	return api.OK
}

// isOf is what the chapter says of Is.
func isOf(m api.Matcher, value string) bool {
	if checkOf(m) != api.OK {
		return false
	}
	switch m.Kind {
	case 1:
		return value == m.Value
	case 2:
		return value != m.Value
	}
	r, _, _ := regex.Compile(m.Value)
	return r.Match(value) == (m.Kind == 3)
}

// allOf is what the chapter says of All.
func allOf(l []api.Matcher, set []api.Label) bool {
	failed := 0
	for _, m := range l {
		if !isOf(m, labels.Get(set, m.Name)) {
			failed++
		}
	}
	return failed == 0
}

// printOf is what the chapter says of Print.
func printOf(m api.Matcher) string {
	if checkOf(m) != api.OK {
		return ""
	}
	return m.Name + []string{"", "=", "!=", "=~", "!~"}[m.Kind] + text.Quote(m.Value)
}

// raw are the bytes of any list, whether its matchers are some or not.
func raw(l []api.Matcher) []byte {
	b := []byte{byte(len(l))}
	for _, m := range l {
		b = append(b, m.Kind)
		for _, s := range []string{m.Name, m.Value} {
			b = append(b, byte(len(s)%256), byte(len(s)/256))
			b = append(b, s...)
		}
	}
	return b
}

// encodeOf is what the chapter says of Encode.
func encodeOf(l []api.Matcher) ([]byte, api.Errno) {
	if len(l) > 32 {
		return nil, api.ErrArg
	}
	for _, m := range l {
		if errno := checkOf(m); errno != api.OK {
			return nil, errno
		}
	}
	return raw(l), api.OK
}

// decodeOf is what the chapter says of Decode: it looks at every beginning of the bytes.
func decodeOf(b []byte) ([]api.Matcher, int, api.Errno) {
	for n := range len(b) + 1 {
		l, ok := wholeOf(b[:n])
		if _, errno := encodeOf(l); ok && errno == api.OK {
			return l, n, api.OK
		}
	}
	return nil, 0, api.ErrMatchForm
}

// wholeOf are the matchers that bytes are, all of them.
func wholeOf(b []byte) ([]api.Matcher, bool) {
	if len(b) == 0 {
		return nil, false
	}
	var l []api.Matcher
	for at := 1; at < len(b); {
		m := api.Matcher{Kind: b[at]}
		at++
		for _, s := range []*string{&m.Name, &m.Value} {
			if len(b)-at < 2 {
				return nil, false
			}
			size := int(b[at]) + 256*int(b[at+1])
			at += 2
			if len(b)-at < size {
				return nil, false
			}
			*s = string(b[at : at+size])
			at += size
		}
		l = append(l, m)
	}
	return l, len(l) == int(b[0])
}

func short(s string) string {
	if len(s) > 200 {
		s = s[:200] + ".."
	}
	return s
}

// shown is a list within a message.
func shown(l ...api.Matcher) string {
	s := ""
	for _, m := range l {
		s += "{" + string([]byte{'0' + m.Kind/100, '0' + m.Kind/10%10, '0' + m.Kind%10}) + " " + text.Quote(short(m.Name)) + " " + text.Quote(short(m.Value)) + "}"
	}
	return short(s)
}

func bytesShown(b []byte) string { return text.Quote(short(string(b))) }

// checks asks Check for an error.
func checks(t *testing.T, m api.Matcher, want api.Errno) {
	t.Helper()
	if got := match.Check(m); got != want {
		t.Errorf("Check(%s) = %v, want %v", shown(m), got, want)
	}
}

// is asks Is, and All of that matcher alone, whether a value fits; for the empty value, Empty too, and a set without the label.
func is(t *testing.T, m api.Matcher, value string, want bool) {
	t.Helper()
	if got := match.Is(m, value); got != want {
		t.Errorf("Is(%s, %q) = %v, want %v", shown(m), short(value), got, want)
	}
	all(t, list(m), set(m.Name, value), want)
	if value != "" {
		return
	}
	all(t, list(m), nil, want)
	if got := match.Empty(m); got != want {
		t.Errorf("Empty(%s) = %v, want %v", shown(m), got, want)
	}
}

// all asks All whether a set fits.
func all(t *testing.T, l []api.Matcher, set []api.Label, want bool) {
	t.Helper()
	if got := match.All(l, set); got != want {
		t.Errorf("All(%s, %s) = %v, want %v", shown(l...), short(labels.Print(set)), got, want)
	}
}

// prints asks Print for a text.
func prints(t *testing.T, m api.Matcher, want string) {
	t.Helper()
	if got := match.Print(m); got != want {
		t.Errorf("Print(%s) = %q, want %q", shown(m), short(got), short(want))
	}
}

// encodes asks Encode for bytes.
func encodes(t *testing.T, l []api.Matcher, want []byte) {
	t.Helper()
	if got, errno := match.Encode(l); errno != api.OK || !slices.Equal(got, want) {
		t.Errorf("Encode(%s) = %s, %v, want %s", shown(l...), bytesShown(got), errno, bytesShown(want))
	}
}

// encodeFails asks Encode for an error, and nothing beside it.
func encodeFails(t *testing.T, l []api.Matcher, want api.Errno) {
	t.Helper()
	if got, errno := match.Encode(l); errno != want || len(got) != 0 {
		t.Errorf("Encode(%s) = %s, %v, want nothing and %v", shown(l...), bytesShown(got), errno, want)
	}
}

// decodes asks Decode for matchers, and for how many bytes they take.
func decodes(t *testing.T, b []byte, want []api.Matcher, n int) {
	t.Helper()
	if got, size, errno := match.Decode(b); errno != api.OK || size != n || !slices.Equal(got, want) {
		t.Errorf("Decode(%s) = %s, %d, %v, want %s and %d", bytesShown(b), shown(got...), size, errno, shown(want...), n)
	}
}

// decodeFails asks Decode for its error, and nothing beside it.
func decodeFails(t *testing.T, b []byte) {
	t.Helper()
	if got, size, errno := match.Decode(b); errno != api.ErrMatchForm || size != 0 || len(got) != 0 {
		t.Errorf("Decode(%s) = %s, %d, %v, want nothing, 0 and errno 90", bytesShown(b), shown(got...), size, errno)
	}
}

// decodesAsTheChapter holds Decode of any bytes against what the chapter says of it.
func decodesAsTheChapter(t *testing.T, b []byte) {
	t.Helper()
	want, n, errno := decodeOf(b)
	if errno == api.OK {
		decodes(t, b, want, n)
	} else {
		decodeFails(t, b)
	}
}
