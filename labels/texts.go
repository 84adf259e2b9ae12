package labels

import (
	"strings"

	"barograph/api"
	"barograph/text"
)

// Print is l as a text.
func Print(l []api.Label) string {
	texts := make([]string, len(l))
	for i, x := range l {
		texts[i] = x.Name + "=" + text.Quote(x.Value)
	}
	return "{" + strings.Join(texts, ", ") + "}"
}

// Parse is the set that a text tells.
func Parse(s string) ([]api.Label, api.Errno, int) {
	r := &reader{s: s}
	l, ok := r.all()
	if !ok {
		return nil, api.ErrLabelsForm, r.at
	}
	set, errno := Set(l)
	if errno != api.OK {
		return nil, errno, len(s)
	}
	return set, api.OK, 0
}

// reader reads a text from its start on. Whatever it reads, it reads the blanks behind it too; where it can't go on it stays.
type reader struct {
	s  string
	at int // the next byte
}

// rest is what is left.
func (r *reader) rest() string { return r.s[r.at:] }

// pass goes on behind so many bytes, and the blanks that follow them.
func (r *reader) pass(n int) {
	r.at = len(r.s) - len(strings.TrimLeft(r.s[r.at+n:], " "))
}

// sign reads this one if it comes next, and tells whether it does.
func (r *reader) sign(sign string) bool {
	if !strings.HasPrefix(r.rest(), sign) {
		return false
	}
	r.pass(len(sign))
	return true
}

// all reads the whole text; false: it does not have the form.
func (r *reader) all() ([]api.Label, bool) {
	var l []api.Label
	r.pass(0)
	if !r.sign("{") {
		return nil, false
	}
	for mayGoOn := true; !r.sign("}"); mayGoOn = r.sign(",") {
		if !mayGoOn {
			return nil, false
		}
		x, ok := r.label()
		if !ok {
			return nil, false
		}
		l = append(l, x)
	}
	return l, r.rest() == ""
}

// label reads a name, the sign and a value.
func (r *reader) label() (api.Label, bool) {
	name := nameAhead(r.rest())
	if name == "" {
		return api.Label{}, false
	}
	r.pass(len(name))
	if !r.sign("=") {
		return api.Label{}, false
	}
	value, ok := r.value()
	return api.Label{Name: name, Value: value}, ok
}

// value reads a string between the quotes that Print writes; Unquote takes others as well.
func (r *reader) value() (string, bool) {
	if !strings.HasPrefix(r.rest(), `"`) {
		return "", false
	}
	// A text that ends within a value ends too early, whatever Unquote would say of what is there: its end is told, and not where the value begins.
	n := closedAt(r.rest())
	if n == 0 {
		r.at = len(r.s)
		return "", false
	}
	value, errno, _ := text.Unquote(r.rest()[:n])
	if errno != api.OK {
		return "", false
	}
	r.pass(n)
	return value, true
}

// closedAt is how many bytes the string between quotes takes that s begins with; 0: no quote closes it. The byte behind a backslash closes nothing, also where both are no escape that Unquote knows.
func closedAt(s string) int {
	for at := 1; at < len(s); at++ {
		switch s[at] {
		case '"':
			return at + 1
		case '\\':
			at++
		}
	}
	return 0
}
