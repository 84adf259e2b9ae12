package regex

import "strings"

// class reads one, from its bracket to the one that closes it.
func (r *reader) class() (*node, bool) {
	r.at++
	isInverted := r.sign("^")
	first := r.at
	var all set
	for r.at == first || !r.sign("]") {
		x, ok := r.items(first)
		if !ok {
			return nil, false
		}
		all = all.and(x)
	}
	if isInverted {
		all = all.others()
	}
	return oneOf(all), true
}

// items reads an item, or two of them that bound a range, in a class whose first one is there.
func (r *reader) items(first int) (set, bool) {
	if r.at > first && r.isDashBetween() {
		return r.strayDash()
	}
	x, ok := r.item()
	from, isSingle := x.single()
	if !ok || !isSingle || !r.isDashBetween() {
		return x, ok
	}
	r.at++
	second := r.at
	y, ok := r.item()
	if !ok {
		return set{}, false
	}
	to, isSingle := y.single()
	if !isSingle || to < from {
		r.at = second
		return set{}, false
	}
	return span(from, to), true
}

// isDashBetween tells whether a dash comes next that is not the last item of the class.
func (r *reader) isDashBetween() bool {
	return r.isNext("-") && !strings.HasPrefix(r.rest(), "-]")
}

// strayDash stays at a dash that can't bound a range. If the pattern ends with it, only the end of the class is missing, for it may still be the last item: then that is where the reader can't go on.
func (r *reader) strayDash() (set, bool) {
	if r.rest() == "-" {
		r.at++
	}
	return set{}, false
}

// item reads one.
func (r *reader) item() (set, bool) {
	if r.isNext("]") {
		return set{}, false
	}
	return r.plainOrEscape()
}

// plainOrEscape reads a byte that matches itself, or a backslash and what stands behind it.
func (r *reader) plainOrEscape() (set, bool) {
	isEscape := r.sign(`\`)
	if r.rest() == "" {
		return set{}, false
	}
	x := only(r.rest()[0])
	if isEscape {
		x = meaning(r.rest()[0])
	}
	if x == (set{}) {
		return set{}, false
	}
	r.at++
	return x, true
}

// meaning is what a byte matches behind a backslash; nothing, if it may not stand there.
func meaning(c byte) set {
	digits := span('0', '9')
	letters := span('a', 'z').and(span('A', 'Z'))
	switch c {
	case 'n':
		return only('\n')
	case 't':
		return only('\t')
	case 'r':
		return only('\r')
	case 'd':
		return digits
	case 'w':
		return letters.and(digits).and(only('_'))
	case 's':
		return only(' ').and(span('\t', '\n')).and(span('\f', '\r'))
	case 'D', 'W', 'S':
		return meaning(c - 'A' + 'a').others()
	}
	if c < '!' || c > '~' || letters.and(digits).has(c) {
		return set{}
	}
	return only(c)
}
