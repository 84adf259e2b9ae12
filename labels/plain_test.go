package labels_test

import (
	"regexp"
	"slices"
	"sort"
	"strings"
	"testing"

	"barograph/api"
	"barograph/labels"
	"barograph/text"
)

// This file has what the chapter says of the calls, word for word and without haste; the other tests hold the package against it.

// dice are numbers without a pattern, the same ones at every run.
type dice uint64

func (d *dice) number() uint64 {
	*d = *d*6364136223846793005 + 1442695040888963407
	return uint64(*d)>>33 ^ uint64(*d)<<31
}

func (d *dice) below(n int) int { return int(d.number() >> 3 % uint64(n)) }

func (d *dice) bytes(n int) string {
	b := make([]byte, n)
	for i := range b {
		b[i] = byte(d.number() >> 20)
	}
	return string(b)
}

// list has labels of these names and values, in turn.
func list(s ...string) []api.Label {
	var l []api.Label
	for i := 0; i < len(s); i += 2 {
		l = append(l, api.Label{Name: s[i], Value: s[i+1]})
	}
	return l
}

// many is a set of so many labels, for at most a thousand.
func many(n int) []api.Label {
	var l []api.Label
	for i := range n {
		l = append(l, api.Label{Name: "n" + string([]byte{byte('0' + i/100), byte('0' + i/10%10), byte('0' + i%10)}), Value: "v"})
	}
	return l
}

// allBytes are the 256 of them.
func allBytes() string {
	b := make([]byte, 256)
	for c := range b {
		b[c] = byte(c)
	}
	return string(b)
}

var nameAlone = regexp.MustCompile(`^` + nameForm + `$`)

func isName(s string) bool { return len(s) <= 1024 && nameAlone.MatchString(s) }

// isTwice tells whether a name occurs twice.
func isTwice(l []api.Label) bool {
	for i := range l {
		for j := range i {
			if l[i].Name == l[j].Name {
				return true
			}
		}
	}
	return false
}

// checkOf is what the chapter says of Check.
func checkOf(l []api.Label) api.Errno {
	if len(l) > 64 {
		return api.ErrLabelsMany
	}
	for _, x := range l {
		if !isName(x.Name) || x.Value == "" || len(x.Value) > 1024 {
			return api.ErrLabelsForm
		}
	}
	if isTwice(l) {
		return api.ErrLabelsTwice
	}
	for i := 1; i < len(l); i++ {
		if l[i].Name < l[i-1].Name {
			return api.ErrLabelsForm
		}
	}
	return api.OK
}

// setOf is what the chapter says of Set.
func setOf(l []api.Label) ([]api.Label, api.Errno) {
	for _, x := range l {
		if !isName(x.Name) || len(x.Value) > 1024 {
			return nil, api.ErrLabelsForm
		}
	}
	if isTwice(l) {
		return nil, api.ErrLabelsTwice
	}
	var set []api.Label
	for _, x := range l {
		if x.Value == "" {
			continue
		}
		at := 0
		for at < len(set) && set[at].Name < x.Name {
			at++
		}
		set = slices.Concat(set[:at], []api.Label{x}, set[at:])
	}
	if len(set) > 64 {
		return nil, api.ErrLabelsMany
	}
	return set, api.OK
}

// cmpOf is what the chapter says of Cmp.
func cmpOf(a, b []api.Label) int {
	for i := 0; i < len(a) && i < len(b); i++ {
		switch {
		case a[i].Name < b[i].Name:
			return -1
		case a[i].Name > b[i].Name:
			return 1
		case a[i].Value < b[i].Value:
			return -1
		case a[i].Value > b[i].Value:
			return 1
		}
	}
	switch {
	case len(a) < len(b):
		return -1
	case len(a) > len(b):
		return 1
	}
	return 0
}

// getOf is what the chapter says of Get.
func getOf(l []api.Label, name string) string {
	for i := range l {
		if l[i].Name == name {
			return l[i].Value
		}
	}
	return ""
}

// partOf are the labels that have one of the names, or those that have none.
func partOf(l []api.Label, names []string, one bool) []api.Label {
	var part []api.Label
	for _, x := range l {
		if slices.Contains(names, x.Name) == one {
			part = append(part, x)
		}
	}
	return part
}

// withOf is what the chapter says of With.
func withOf(l []api.Label, name, value string) []api.Label {
	var with []api.Label
	isIn := value == ""
	for _, x := range partOf(l, []string{name}, false) {
		if !isIn && x.Name > name {
			with = append(with, api.Label{Name: name, Value: value})
			isIn = true
		}
		with = append(with, x)
	}
	if !isIn {
		with = append(with, api.Label{Name: name, Value: value})
	}
	return with
}

// printOf is what the chapter says of Print.
func printOf(l []api.Label) string {
	s := "{"
	for i, x := range l {
		if i > 0 {
			s += ", "
		}
		s += x.Name + "=" + text.Quote(x.Value)
	}
	return s + "}"
}

// The forms of the texts that Parse reads, but for the length of a name.
const (
	nameForm   = `[A-Za-z_][A-Za-z0-9_]*`
	hexDigit   = `[0-9a-fA-F]`
	pointForm  = `(?:[0-9abcefABCEF]` + hexDigit + `{3}|[dD][0-7]` + hexDigit + `{2})`
	escapeForm = `\\(?:[abfnrtv\\'"]|x` + hexDigit + `{2}|[0-3][0-7]{2}|u` + pointForm + `|U0000` + pointForm + `|U000[1-9a-fA-F]` + hexDigit + `{4}|U0010` + hexDigit + `{4})`
	charsForm  = `"(?:[^"\\\n]|` + escapeForm + `)*`
	valueForm  = charsForm + `"`
	labelForm  = nameForm + ` *= *` + valueForm
	headForm   = `^ *\{ *(?:` + labelForm + ` *, *)*`
	partOfOne  = `\\(?:x` + hexDigit + `?|[0-3][0-7]?|u` + hexDigit + `{0,3}|U` + hexDigit + `{0,7})?`
)

var (
	whole = regexp.MustCompile(`^ *\{ *(?:` + labelForm + ` *(?:, *` + labelForm + ` *)*(?:, *)?)?\} *$`)
	// begun are the texts with which one of them may begin.
	begun    = regexp.MustCompile(`^ *$|` + headForm + `(?:` + nameForm + ` *(?:= *(?:` + valueForm + ` *|` + charsForm + `(?:` + partOfOne + `)?)?)?|(?:` + labelForm + ` *)?\} *)?$`)
	oneLabel = regexp.MustCompile(`(` + nameForm + `) *= *(` + valueForm + `)`)
	// upToValue goes up to the last value that may begin.
	upToValue = regexp.MustCompile(headForm + nameForm + ` *= *`)
	// ended is a value that has its end, whether Unquote takes it or not.
	ended = regexp.MustCompile(`^"(?s:[^"\\]|\\.)*"`)
)

// parseOf is what the chapter says of Parse, for names that are not too long.
func parseOf(s string) ([]api.Label, api.Errno, int) {
	if whole.MatchString(s) {
		var l []api.Label
		for _, m := range oneLabel.FindAllStringSubmatch(s, -1) {
			value, _, _ := text.Unquote(m[2])
			l = append(l, api.Label{Name: m[1], Value: value})
		}
		set, errno := setOf(l)
		if errno != api.OK {
			return nil, errno, len(s)
		}
		return set, api.OK, 0
	}
	if m := upToValue.FindStringIndex(s); m != nil && strings.HasPrefix(s[m[1]:], `"`) {
		value := ended.FindString(s[m[1]:])
		if value == "" {
			return nil, api.ErrLabelsForm, len(s)
		}
		if _, errno, _ := text.Unquote(value); errno != api.OK {
			return nil, api.ErrLabelsForm, m[1]
		}
	}
	return nil, api.ErrLabelsForm, sort.Search(len(s), func(i int) bool { return !begun.MatchString(s[:i+1]) })
}

// encodeOf is what the chapter says of Encode.
func encodeOf(l []api.Label) ([]byte, api.Errno) {
	if errno := checkOf(l); errno != api.OK {
		return nil, errno
	}
	b := []byte{byte(len(l))}
	for _, x := range l {
		for _, s := range []string{x.Name, x.Value} {
			b = append(b, byte(len(s)%256), byte(len(s)/256))
			b = append(b, s...)
		}
	}
	return b, api.OK
}

// decodeOf is what the chapter says of Decode: it looks at every beginning of the bytes.
func decodeOf(b []byte) ([]api.Label, int, api.Errno) {
	for n := range len(b) + 1 {
		if l, ok := wholeOf(b[:n]); ok && checkOf(l) == api.OK {
			return l, n, api.OK
		}
	}
	return nil, 0, api.ErrLabelsForm
}

// wholeOf are the labels that bytes are, all of them.
func wholeOf(b []byte) ([]api.Label, bool) {
	if len(b) == 0 {
		return nil, false
	}
	var texts []string
	for at := 1; at < len(b); {
		if len(b)-at < 2 {
			return nil, false
		}
		size := int(b[at]) + 256*int(b[at+1])
		at += 2
		if len(b)-at < size {
			return nil, false
		}
		texts = append(texts, string(b[at:at+size]))
		at += size
	}
	if len(texts) != 2*int(b[0]) {
		return nil, false
	}
	return list(texts...), true
}

// shown is a list within a message.
func shown(l []api.Label) string {
	s := printOf(l)
	if len(s) > 200 {
		s = s[:200] + ".."
	}
	return s
}

func short(s string) string {
	if len(s) > 200 {
		s = s[:200] + ".."
	}
	return s
}

// checks asks Check for an error.
func checks(t *testing.T, l []api.Label, want api.Errno) {
	t.Helper()
	if got := labels.Check(l); got != want {
		t.Errorf("Check(%s) = %v, want %v", shown(l), got, want)
	}
}

// sets asks Set for a set.
func sets(t *testing.T, l, want []api.Label) {
	t.Helper()
	if got, errno := labels.Set(l); errno != api.OK || !slices.Equal(got, want) {
		t.Errorf("Set(%s) = %s, %v, want %s", shown(l), shown(got), errno, shown(want))
	}
}

// setFails asks Set for an error, and nothing beside it.
func setFails(t *testing.T, l []api.Label, want api.Errno) {
	t.Helper()
	if got, errno := labels.Set(l); errno != want || len(got) != 0 {
		t.Errorf("Set(%s) = %s, %v, want nothing and %v", shown(l), shown(got), errno, want)
	}
}

// parses asks Parse for a set.
func parses(t *testing.T, s string, want []api.Label) {
	t.Helper()
	if got, errno, at := labels.Parse(s); errno != api.OK || at != 0 || !slices.Equal(got, want) {
		t.Errorf("Parse(%q) = %s, %v, %d, want %s, OK and 0", short(s), shown(got), errno, at, shown(want))
	}
}

// parseFails asks Parse for an error and an offset, and nothing beside them.
func parseFails(t *testing.T, s string, want api.Errno, offset int) {
	t.Helper()
	if got, errno, at := labels.Parse(s); errno != want || at != offset || len(got) != 0 {
		t.Errorf("Parse(%q) = %s, %v, %d, want nothing, %v and %d", short(s), shown(got), errno, at, want, offset)
	}
}

// breaks asks Parse for the offset at which a text does not have the form.
func breaks(t *testing.T, s string, offset int) {
	t.Helper()
	parseFails(t, s, api.ErrLabelsForm, offset)
}

// asTheChapter holds Parse of any text against what the chapter says of it.
func asTheChapter(t *testing.T, s string) {
	t.Helper()
	want, errno, at := parseOf(s)
	if errno == api.OK {
		parses(t, s, want)
	} else {
		parseFails(t, s, errno, at)
	}
}

// encodes asks Encode for bytes.
func encodes(t *testing.T, l []api.Label, want []byte) {
	t.Helper()
	if got, errno := labels.Encode(l); errno != api.OK || !slices.Equal(got, want) {
		t.Errorf("Encode(%s) = %x, %v, want %x", shown(l), got, errno, want)
	}
}

// decodes asks Decode for a set, and for how many bytes it takes.
func decodes(t *testing.T, b []byte, want []api.Label, n int) {
	t.Helper()
	if got, size, errno := labels.Decode(b); errno != api.OK || size != n || !slices.Equal(got, want) {
		t.Errorf("Decode(%s) = %s, %d, %v, want %s and %d", bytesShown(b), shown(got), size, errno, shown(want), n)
	}
}

// decodeFails asks Decode for its error, and nothing beside it.
func decodeFails(t *testing.T, b []byte) {
	t.Helper()
	if got, size, errno := labels.Decode(b); errno != api.ErrLabelsForm || size != 0 || len(got) != 0 {
		t.Errorf("Decode(%s) = %s, %d, %v, want nothing, 0 and errno 70", bytesShown(b), shown(got), size, errno)
	}
}

func bytesShown(b []byte) string { return text.Quote(short(string(b))) }
