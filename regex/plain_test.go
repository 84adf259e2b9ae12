package regex_test

import (
	"regexp"
	"slices"
	"sort"
	"strings"

	"barograph/api"
)

// This file has what the chapter says of patterns and of matches, word for word and without haste; the other tests hold the package against it.

// The words of a pattern. A class is read as the chapter has it: a dash is the first byte of the items, stands between two of them that match a single byte each, or is the last one of all.
const (
	single     = `\\[ntr!-/:-@\[-` + "`" + `{-~]`
	multiItem  = `\\[dwsDWS]`
	escapeWord = `(?:` + single + `|` + multiItem + `)`
	singleItem = `(?:[^\]\\-]|` + single + `)`
	endOfRange = `(?:` + singleItem + `|-)`
	someItems  = `(?:` + singleItem + `-` + endOfRange + `|` + singleItem + `|` + multiItem + `)`
	// The first items of a class: with a `^` ahead of them, and without one.
	behindNot  = `(?:--` + endOfRange + `|-|` + someItems + `)`
	otherFirst = `(?:[^\]\\^-]|` + single + `)`
	withoutNot = `(?:--` + endOfRange + `|-|` + otherFirst + `-` + endOfRange + `|` + otherFirst + `|` + multiItem + `)`
	classWord  = `\[(?:\^` + behindNot + `|` + withoutNot + `)` + someItems + `*-?\]`
	countWord  = `(?:[*+?]|\{[0-9]{1,4}(?:,[0-9]{0,4})?\})\??`
	openWord   = `\((?:\?:)?`
	plainWord  = `[^\\.\[\]()|*+?{}^$]`
)

// Bytes are matched as the code points of the same numbers.
var (
	words      = regexp.MustCompile(`^(?s:(` + plainWord + `|[.^$]|` + escapeWord + `|` + classWord + `)|(` + countWord + `)|(` + openWord + `)|(\))|(\|))`)
	itemOrSpan = regexp.MustCompile(`(?s:(` + singleItem + `|-)-(` + endOfRange + `)|` + singleItem + `|` + multiItem + `|-)`)
)

// wide is a text with a code point for each byte.
func wide(s string) string {
	r := make([]rune, len(s))
	for i := range len(s) {
		r[i] = rune(s[i])
	}
	return string(r)
}

// narrow is the text of which wide made this one.
func narrow(s string) string {
	var b []byte
	for _, r := range s {
		b = append(b, byte(r))
	}
	return string(b)
}

// Kinds of words.
const (
	atomWord  = 'a'
	timesWord = 'c'
	opening   = '('
	closing   = ')'
	bar       = '|'
)

// word is one of a pattern.
type word struct {
	kind rune
	text string
	at   int
}

// wordsOf cuts a pattern into its words, as far as that goes, and tells whether it goes to the end.
func wordsOf(pattern string) (all []word, ok bool) {
	rest, at := wide(pattern), 0
	for rest != "" {
		m := words.FindStringSubmatch(rest)
		if m == nil {
			return all, false
		}
		for i, kind := range []rune{atomWord, timesWord, opening, closing, bar} {
			if m[i+1] != "" {
				all = append(all, word{kind, narrow(m[0]), at})
			}
		}
		rest = rest[len(m[0]):]
		at += len(narrow(m[0]))
	}
	return all, true
}

// isPattern tells whether words are a pattern: what is opened is closed, and a count follows an atom.
func isPattern(all []word) bool {
	depth := 0
	var before rune
	for _, w := range all {
		switch w.kind {
		case opening:
			depth++
		case closing:
			depth--
		case timesWord:
			if before != atomWord && before != closing {
				return false
			}
		}
		if depth < 0 {
			return false
		}
		before = w.kind
	}
	return depth == 0
}

// completions are what may end a pattern that ends within a word.
func completions() []string {
	return []string{"", "n", "]", "a]", "n]", ":", "}", "0}"}
}

// mayGoOn tells whether some pattern begins so, if numbers and the order of ranges are not looked at.
func mayGoOn(pattern string) bool {
	for _, s := range completions() {
		all, ok := wordsOf(pattern + s)
		for range depthOf(all) {
			all = append(all, word{kind: closing})
		}
		if ok && isPattern(all) {
			return true
		}
	}
	return false
}

// depthOf is how many parentheses are open behind words.
func depthOf(all []word) int {
	depth := 0
	for _, w := range all {
		switch w.kind {
		case opening:
			depth++
		case closing:
			depth--
		}
	}
	return max(depth, 0)
}

// formOf is what the chapter says of a pattern's form: its words, or the offset that Compile tells.
func formOf(pattern string) (all []word, at int, ok bool) {
	// What a pattern can't begin with, no longer one begins with.
	at = sort.Search(len(pattern), func(i int) bool { return !mayGoOn(pattern[:i+1]) })
	all, isCut := wordsOf(pattern[:at])
	if fault := firstFault(all, pattern[:at]); fault < at {
		return nil, fault, false
	}
	if at < len(pattern) {
		return nil, told(pattern, at), false
	}
	if !isCut || !isPattern(all) {
		return nil, at, false
	}
	return all, 0, true
}

// told is the offset that is told where a pattern can't go on with the byte at one: it may be ahead of that.
func told(pattern string, at int) int {
	switch {
	case at == 0:
		return 0
	case pattern[at-1] == '-' && mayGoOn(pattern[:at]+"]"):
		// The dash could have been the last item only.
		return at - 1
	case pattern[at-1] == '\\' && strings.IndexByte("dwsDWS", pattern[at]) >= 0:
		// No range ends with such an item.
		return at - 1
	}
	return at
}

var bounds = regexp.MustCompile(`^\{([0-9]{1,4})(?:,([0-9]{1,4}))?`)

// firstFault is the offset that is told of the first number that is too great and the first range that falls; the pattern's length, if there is none. The pattern may end within its last word.
func firstFault(all []word, pattern string) int {
	end := 0
	for _, w := range all {
		end = w.at + len(w.text)
	}
	all = append(slices.Clone(all), word{0, pattern[end:], end})
	for _, w := range all {
		if fault := faultOfWord(w.text); fault >= 0 {
			return w.at + fault
		}
	}
	return len(pattern)
}

func faultOfWord(s string) int {
	if m := bounds.FindStringSubmatchIndex(s); m != nil {
		least := valueOf(s[m[2]:m[3]])
		if least > 1000 {
			return m[3]
		}
		if m[4] >= 0 {
			if most := valueOf(s[m[4]:m[5]]); most > 1000 || most < least {
				return m[5]
			}
		}
	}
	if len(s) > 1 && s[0] == '[' {
		for _, x := range itemsOf(s) {
			if x.to != "" && byteOf(x.to) < byteOf(x.from) {
				return x.toAt
			}
		}
	}
	return -1
}

func valueOf(digits string) int {
	n := 0
	for _, c := range digits {
		n = 10*n + int(c-'0')
	}
	return n
}

// item is one of a class, or two that bound a range.
type item struct {
	from, to string
	toAt     int
}

// itemsOf are those of a class, which may be cut short.
func itemsOf(class string) []item {
	head := 1
	if strings.HasPrefix(class, "[^") {
		head = 2
	}
	// The bracket that closes the class is no item.
	content := wide(class[head:])
	var all []item
	for _, m := range itemOrSpan.FindAllStringSubmatchIndex(content, -1) {
		x := item{from: narrow(content[m[0]:m[1]])}
		if m[2] >= 0 {
			x = item{narrow(content[m[2]:m[3]]), narrow(content[m[4]:m[5]]), head + len(narrow(content[:m[4]]))}
		}
		all = append(all, x)
	}
	return all
}

// byteOf is the one that an item matches.
func byteOf(item string) byte {
	if item[0] != '\\' {
		return item[0]
	}
	switch item[1] {
	case 'n':
		return 0x0a
	case 't':
		return 0x09
	case 'r':
		return 0x0d
	}
	return item[1]
}

// has is what the chapter says of an atom that is a byte, an escape or an item.
func has(atom string, c byte) bool {
	switch atom {
	case ".":
		return true
	case `\d`:
		return '0' <= c && c <= '9'
	case `\w`:
		return '0' <= c && c <= '9' || 'a' <= c && c <= 'z' || 'A' <= c && c <= 'Z' || c == '_'
	case `\s`:
		return c == 0x20 || c == 0x09 || c == 0x0a || c == 0x0c || c == 0x0d
	case `\D`, `\W`, `\S`:
		return !has(strings.ToLower(atom), c)
	}
	return byteOf(atom) == c
}

// matches is what the chapter says of an atom that takes a byte.
func matches(atom string, c byte) bool {
	if len(atom) == 1 || atom[0] == '\\' {
		return has(atom, c)
	}
	inOne := false
	for _, x := range itemsOf(atom) {
		if x.to == "" {
			inOne = inOne || has(x.from, c)
		} else {
			inOne = inOne || byteOf(x.from) <= c && c <= byteOf(x.to)
		}
	}
	return inOne != strings.HasPrefix(atom, "[^")
}

// tree is a pattern, or a part of one.
type tree struct {
	kind        rune // bar: branches; '.': pieces; atomWord, opening, timesWord
	atom        string
	number      int // of a group; 0: it has none
	times       string
	least, most int // times
	isLazy      bool
	kids        []tree
}

// treeOf is the tree of a pattern's words.
func treeOf(all []word) tree {
	groups := 0
	t, _ := branchesOf(all, &groups)
	return t
}

func branchesOf(all []word, groups *int) (tree, []word) {
	t := tree{kind: bar, kids: []tree{{kind: '.'}}}
	for len(all) > 0 && all[0].kind != closing {
		last := &t.kids[len(t.kids)-1]
		switch w := all[0]; w.kind {
		case bar:
			t.kids = append(t.kids, tree{kind: '.'})
		case atomWord:
			last.kids = append(last.kids, tree{kind: atomWord, atom: w.text})
		case timesWord:
			x := &last.kids[len(last.kids)-1]
			least, most, isLazy := times(w.text)
			*x = tree{kind: timesWord, times: w.text, least: least, most: most, isLazy: isLazy, kids: []tree{*x}}
		case opening:
			group := tree{kind: opening}
			if w.text == "(" {
				*groups++
				group.number = *groups
			}
			var inner tree
			inner, all = branchesOf(all[1:], groups)
			group.kids = []tree{inner}
			last.kids = append(last.kids, group)
		}
		all = all[1:]
	}
	return t, all
}

const endless = 1 << 30

// times are how often a count lets its atom occur.
func times(count string) (least, most int, isLazy bool) {
	isLazy = len(count) > 1 && strings.HasSuffix(count, "?")
	switch count[0] {
	case '*':
		return 0, endless, isLazy
	case '+':
		return 1, endless, isLazy
	case '?':
		return 0, 1, isLazy
	}
	inner, _, _ := strings.Cut(count[1:], "}")
	first, second, isPair := strings.Cut(inner, ",")
	least = valueOf(first)
	switch {
	case !isPair:
		return least, least, isLazy
	case second == "":
		return least, endless, isLazy
	}
	return least, valueOf(second), isLazy
}

// many is the number that any number of states beyond the limit is told as, so that products stay small.
const many = 1 << 20

// statesOf is what the chapter says of the number of states, but for the one that a pattern has more.
func statesOf(t tree) int {
	n := 0
	for _, kid := range t.kids {
		n += statesOf(kid)
	}
	switch t.kind {
	case bar:
		n += 2 * (len(t.kids) - 1)
	case atomWord:
		n = 1
	case opening:
		if t.number > 0 {
			n += 2
		}
	case timesWord:
		n = statesOfTimes(t, n)
	}
	return min(n, many)
}

func statesOfTimes(t tree, x int) int {
	switch {
	case t.times[0] == '*':
		return x + 2
	case t.times[0] == '+', t.times[0] == '?':
		return x + 1
	case t.most == endless:
		return t.least*x + x + 2
	}
	return t.least*x + (t.most-t.least)*(x+1)
}

// compileOf is what the chapter says of Compile.
func compileOf(pattern string) (t tree, errno api.Errno, at int) {
	if len(pattern) > 500 {
		return tree{}, api.ErrRegexLong, 0
	}
	all, at, ok := formOf(pattern)
	if !ok {
		return tree{}, api.ErrRegexForm, at
	}
	deepest := 0
	for i := range all {
		deepest = max(deepest, depthOf(all[:i+1]))
	}
	t = treeOf(all)
	if deepest > 100 || statesOf(t)+1 > 1000 {
		return tree{}, api.ErrRegexLong, 0
	}
	return t, api.OK, 0
}

// groupsIn is how many groups a tree has.
func groupsIn(t tree) int {
	n := 0
	if t.number > 0 {
		n = 1
	}
	for _, kid := range t.kids {
		n += groupsIn(kid)
	}
	return n
}

// search looks for the preferred match, by trying all of them in the order of preference.
type search struct {
	text  string
	steps int // that are left
}

// parts are what groups have matched, the last one first.
type parts struct {
	number int
	part   string
	before *parts
}

// of is what a group has matched last.
func (p *parts) of(number int) string {
	for ; p != nil; p = p.before {
		if p.number == number {
			return p.part
		}
	}
	return ""
}

// match tries the ways in which a tree matches a part of the text that begins at one place, and goes on with each of them.
func (s *search) match(t tree, at int, p *parts, goOn func(at int, p *parts) bool) bool {
	s.steps--
	if s.steps < 0 {
		return false
	}
	switch t.kind {
	case bar:
		for _, kid := range t.kids {
			if s.match(kid, at, p, goOn) {
				return true
			}
		}
		return false
	case '.':
		return s.pieces(t.kids, at, p, goOn)
	case timesWord:
		return s.repetitions(t, 0, at, p, goOn)
	case opening:
		return s.match(t.kids[0], at, p, func(end int, p *parts) bool {
			if t.number > 0 {
				p = &parts{t.number, s.text[at:end], p}
			}
			return goOn(end, p)
		})
	}
	switch t.atom {
	case "^":
		return at == 0 && goOn(at, p)
	case "$":
		return at == len(s.text) && goOn(at, p)
	}
	return at < len(s.text) && matches(t.atom, s.text[at]) && goOn(at+1, p)
}

func (s *search) pieces(all []tree, at int, p *parts, goOn func(at int, p *parts) bool) bool {
	if len(all) == 0 {
		return goOn(at, p)
	}
	return s.match(all[0], at, p, func(at int, p *parts) bool {
		return s.pieces(all[1:], at, p, goOn)
	})
}

// repetitions goes on behind so many repetitions of a count.
func (s *search) repetitions(t tree, done, at int, p *parts, goOn func(at int, p *parts) bool) bool {
	another := func() bool {
		return done < t.most && s.match(t.kids[0], at, p, func(end int, p *parts) bool {
			if t.most == endless && done >= t.least && end == at {
				return false
			}
			return s.repetitions(t, done+1, end, p, goOn)
		})
	}
	none := func() bool { return done >= t.least && goOn(at, p) }
	if t.isLazy {
		return none() || another()
	}
	return another() || none()
}

// groupsOf is what the chapter says of Groups; known: the search has come to its end.
func groupsOf(t tree, text string, steps int) (groups []string, ok, known bool) {
	s := &search{text, steps}
	ok = s.match(t, 0, nil, func(at int, p *parts) bool {
		if at < len(text) {
			return false
		}
		groups = []string{text}
		for i := range groupsIn(t) {
			groups = append(groups, p.of(i+1))
		}
		return true
	})
	return groups, ok, s.steps >= 0
}
