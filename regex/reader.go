package regex

import "strings"

// reader reads a pattern from its start on. Where it can't go on it stays: that offset is told.
type reader struct {
	s       string
	at      int // the next byte
	groups  int // so far
	nested  int // parentheses that are open
	deepest int // how many have been open at most
}

// rest is what is left.
func (r *reader) rest() string { return r.s[r.at:] }

// isNext tells whether one of these bytes comes next.
func (r *reader) isNext(bytes string) bool {
	return r.rest() != "" && strings.IndexByte(bytes, r.rest()[0]) >= 0
}

// sign reads this one if it comes next, and tells whether it does.
func (r *reader) sign(sign string) bool {
	if !strings.HasPrefix(r.rest(), sign) {
		return false
	}
	r.at += len(sign)
	return true
}

// all reads the whole pattern; false: it does not have the form.
func (r *reader) all() (*node, bool) {
	t, ok := r.pattern()
	return t, ok && r.rest() == ""
}

// pattern reads branches, up to the end or a parenthesis that closes.
func (r *reader) pattern() (*node, bool) {
	var kids []*node
	for {
		kid, ok := r.branch()
		if !ok {
			return nil, false
		}
		kids = append(kids, kid)
		if !r.sign("|") {
			return newNode(node{kind: branches, kids: kids}), true
		}
	}
}

// branch reads pieces.
func (r *reader) branch() (*node, bool) {
	var kids []*node
	for r.rest() != "" && !r.isNext("|)") {
		atom, ok := r.atom()
		if !ok {
			return nil, false
		}
		kid, ok := r.count(atom)
		if !ok {
			return nil, false
		}
		kids = append(kids, kid)
	}
	return newNode(node{kind: sequence, kids: kids}), true
}

// atom reads one. The sign of a count begins none: so a count is read behind an atom only, and not behind another count.
func (r *reader) atom() (*node, bool) {
	switch {
	case r.isNext("*+?{}]"):
		return nil, false
	case r.isNext("("):
		return r.parentheses()
	case r.isNext("["):
		return r.class()
	case r.sign("^"):
		return newNode(node{kind: anEdge, edge: start}), true
	case r.sign("$"):
		return newNode(node{kind: anEdge, edge: end}), true
	case r.sign("."):
		return oneOf(set{}.others()), true
	}
	x, ok := r.plainOrEscape()
	return oneOf(x), ok
}

func oneOf(x set) *node { return newNode(node{kind: aByte, bytes: x}) }

// parentheses reads them and the pattern between them, which is a group or not.
func (r *reader) parentheses() (*node, bool) {
	r.at++
	number := 0
	if !r.sign("?") {
		r.groups++
		number = r.groups
	} else if !r.sign(":") {
		return nil, false
	}
	r.nested++
	r.deepest = max(r.deepest, r.nested)
	t, ok := r.pattern()
	if !ok || !r.sign(")") {
		return nil, false
	}
	r.nested--
	if number > 0 {
		t = newNode(node{kind: group, number: number, kids: []*node{t}})
	}
	return t, true
}

// count reads the count of an atom, if it has one.
func (r *reader) count(atom *node) (*node, bool) {
	t := node{kind: count, kids: []*node{atom}}
	switch {
	case r.sign("*"):
		t.most = endless
	case r.sign("+"):
		t.least, t.most, t.plus = 1, endless, true
		t.empty = emptinessOf(atom)
	case r.sign("?"):
		t.most = 1
	case r.sign("{"):
		var ok bool
		if t.least, t.most, ok = r.bounds(); !ok {
			return nil, false
		}
	default:
		return atom, true
	}
	t.lazy = r.sign("?")
	return newNode(t), true
}

// bounds reads what stands behind a brace, up to the one that closes it.
func (r *reader) bounds() (least, most int, ok bool) {
	if least, ok = r.number(); !ok {
		return 0, 0, false
	}
	most = least
	if r.sign(",") {
		most = endless
		if !r.isNext("}") {
			if most, ok = r.number(); !ok || most < least {
				return 0, 0, false
			}
		}
	}
	return least, most, r.sign("}")
}

// number reads a bound. It reads no fifth digit: so that is where the reader can't go on.
func (r *reader) number() (n int, ok bool) {
	const digits, greatest = 4, 1000
	from := r.at
	for r.at-from < digits && r.isNext("0123456789") {
		n = 10*n + int(r.s[r.at]-'0')
		r.at++
	}
	return n, r.at > from && n <= greatest
}
