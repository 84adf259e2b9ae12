package index_test

import (
	"bytes"
	"encoding/binary"
	"hash/crc32"
	"maps"
	"slices"
	"strconv"
	"strings"
	"testing"

	"barograph/api"
	"barograph/index"
	"barograph/labels"
	"barograph/match"
)

// This file has what the chapter says of the calls, word for word and without haste; the other tests hold the package against it.

// The calls are those that the chapter lists.
var (
	_ func([]api.Entry) ([]byte, api.Errno)                = index.Encode
	_ func([]byte) (*index.Index, api.Errno)               = index.Open
	_ func(*index.Index) int                               = (*index.Index).Len
	_ func(*index.Index, int) (api.Entry, api.Errno)       = (*index.Index).Entry
	_ func(*index.Index) []string                          = (*index.Index).Symbols
	_ func(x *index.Index, name, value string) []int       = (*index.Index).Of
	_ func(*index.Index, []api.Matcher) ([]int, api.Errno) = (*index.Index).Select
)

// dice are numbers without a pattern, the same ones at every run.
type dice uint64

func (d *dice) number() uint64 {
	*d = *d*6364136223846793005 + 1442695040888963407
	return uint64(*d)>>33 ^ uint64(*d)<<31
}

func (d *dice) below(n int) int { return int(d.number() >> 3 % uint64(n)) }

func (d *dice) oneOf(all ...string) string { return all[d.below(len(all))] }

// ints are numbers.
func ints(l ...int) []int { return l }

// Numbers at the ends of what an int holds.
const (
	least    = -1 << 63
	greatest = 1<<63 - 1
)

// set has labels of these names and values, in turn.
func set(s ...string) []api.Label {
	var l []api.Label
	for i := 0; i < len(s); i += 2 {
		l = append(l, api.Label{Name: s[i], Value: s[i+1]})
	}
	return l
}

// numbered is a set of so many labels, for at most 1000: n000, n001 and so on.
func numbered(n int) []api.Label {
	var l []api.Label
	for i := range n {
		l = append(l, api.Label{Name: "n" + strconv.Itoa(1000 + i)[1:], Value: "v"})
	}
	return l
}

// entry has these labels and chunks.
func entry(l []api.Label, chunks ...api.Place) api.Entry { return api.Entry{Labels: l, Chunks: chunks} }

// place is a chunk's.
func place(from, to int64, n, at, size int) api.Place {
	return api.Place{From: from, To: to, N: n, At: at, Size: size}
}

// entries are some.
func entries(l ...api.Entry) []api.Entry { return l }

// ofSets are entries with these labels, without chunks.
func ofSets(sets ...[]api.Label) []api.Entry {
	var l []api.Entry
	for _, set := range sets {
		l = append(l, entry(set))
	}
	return l
}

// Each kind of matcher.
func eq(name, value string) api.Matcher { return api.Matcher{Kind: 1, Name: name, Value: value} }
func ne(name, value string) api.Matcher { return api.Matcher{Kind: 2, Name: name, Value: value} }
func re(name, value string) api.Matcher { return api.Matcher{Kind: 3, Name: name, Value: value} }
func nr(name, value string) api.Matcher { return api.Matcher{Kind: 4, Name: name, Value: value} }

// list is a list of matchers.
func list(l ...api.Matcher) []api.Matcher { return l }

// times is a list that has a matcher so many times.
func times(n int, m api.Matcher) []api.Matcher { return slices.Repeat(list(m), n) }

// areValid is what the chapter says of entries.
func areValid(l []api.Entry) bool {
	if len(l) > 4096 {
		return false
	}
	for i, e := range l {
		if labels.Check(e.Labels) != api.OK || i > 0 && labels.Cmp(l[i-1].Labels, e.Labels) != -1 {
			return false
		}
		for j, p := range e.Chunks {
			if p.From > p.To || p.From < -1<<53 || p.From > 1<<53 || p.To < -1<<53 || p.To > 1<<53 {
				return false
			}
			if p.N < 1 || p.N > 120 || p.At < 0 || p.At > 1<<31-1 || p.Size < 0 || p.Size > 1<<31-1 {
				return false
			}
			if j > 0 && p.From <= e.Chunks[j-1].To {
				return false
			}
		}
	}
	return true
}

// content is what the bytes of an index say, right or wrong.
type content struct {
	magic    string
	symbols  []string
	rows     []row  // the entries
	lines    []line // the postings
	behind   string // bytes behind the postings
	counted  [3]int // what the numbers of symbols, entries and postings are beyond those that are there
	otherSum uint32 // is taken by xor to the sum
}

// row is an entry.
type row struct {
	labels  [][2]int // the numbers of the symbols
	chunks  []api.Place
	counted [2]int // what the numbers of labels and chunks are beyond those that are there
}

// line is a posting.
type line struct {
	label   [2]int
	entries []int
	counted int
}

// little is a number in so many bytes, the lowest first.
func little(n int64, bytes int) string {
	return string(binary.LittleEndian.AppendUint64(nil, uint64(n))[:bytes])
}

func four(n int) string { return little(int64(n), 4) }

func checksum(s string) uint32 { return crc32.Checksum([]byte(s), crc32.MakeTable(crc32.Castagnoli)) }

// summed lays the sum behind bytes.
func summed(s string) []byte { return []byte(s + four(int(checksum(s)))) }

// bytes are those of the format.
func (c content) bytes() []byte {
	var s strings.Builder
	s.WriteString(c.magic + four(len(c.symbols)+c.counted[0]))
	for _, symbol := range c.symbols {
		s.WriteString(little(int64(len(symbol)), 2) + symbol)
	}
	s.WriteString(four(len(c.rows) + c.counted[1]))
	for _, r := range c.rows {
		s.WriteString(little(int64(len(r.labels)+r.counted[0]), 1))
		for _, l := range r.labels {
			s.WriteString(four(l[0]) + four(l[1]))
		}
		s.WriteString(four(len(r.chunks) + r.counted[1]))
		for _, p := range r.chunks {
			s.WriteString(little(p.From, 8) + little(p.To, 8) + little(int64(p.N), 2) + four(p.At) + four(p.Size))
		}
	}
	s.WriteString(four(len(c.lines) + c.counted[2]))
	for _, p := range c.lines {
		s.WriteString(four(p.label[0]) + four(p.label[1]) + four(len(p.entries)+p.counted))
		for _, n := range p.entries {
			s.WriteString(four(n))
		}
	}
	b := summed(s.String() + c.behind)
	end := b[len(b)-4:]
	binary.LittleEndian.PutUint32(end, binary.LittleEndian.Uint32(end)^c.otherSum)
	return b
}

// symbolsOf are all names and values of all labels, without duplicates, in increasing order.
func symbolsOf(l []api.Entry) []string {
	all := map[string]bool{}
	for _, e := range l {
		for _, x := range e.Labels {
			all[x.Name], all[x.Value] = true, true
		}
	}
	return slices.Sorted(maps.Keys(all))
}

// linesOf are the postings of entries with these symbols' numbers.
func linesOf(rows []row) []line {
	having := map[[2]int][]int{}
	for n, r := range rows {
		for _, l := range r.labels {
			having[l] = append(having[l], n)
		}
	}
	var lines []line
	for _, l := range slices.SortedFunc(maps.Keys(having), func(a, b [2]int) int { return slices.Compare(a[:], b[:]) }) {
		lines = append(lines, line{l, having[l], 0})
	}
	return lines
}

// contentOf is what the bytes of an index of these entries say, and would say if they were valid.
func contentOf(l []api.Entry) content {
	c := content{magic: "BGIX", symbols: symbolsOf(l)}
	numbers := map[string]int{}
	for n, symbol := range c.symbols {
		numbers[symbol] = n
	}
	for _, e := range l {
		r := row{chunks: slices.Clone(e.Chunks)}
		for _, x := range e.Labels {
			r.labels = append(r.labels, [2]int{numbers[x.Name], numbers[x.Value]})
		}
		c.rows = append(c.rows, r)
	}
	c.lines = linesOf(c.rows)
	return c
}

// encoded is what the chapter says of Encode.
func encoded(l []api.Entry) ([]byte, api.Errno) {
	if !areValid(l) {
		return nil, api.ErrIndexForm
	}
	return contentOf(l).bytes(), api.OK
}

// cursor reads bytes; short: they have ended too early.
type cursor struct {
	rest  []byte
	short bool
}

func (c *cursor) take(n int) []byte {
	if n > len(c.rest) {
		c.short, c.rest = true, nil
		return make([]byte, n)
	}
	b := c.rest[:n]
	c.rest = c.rest[n:]
	return b
}

func (c *cursor) number(bytes int) int64 {
	return int64(binary.LittleEndian.Uint64(append(slices.Clone(c.take(bytes)), make([]byte, 8)...)))
}

// several reads so many things, as far as there are bytes.
func several[E any](c *cursor, n int64, read func() E) []E {
	var l []E
	for i := int64(0); i < n && !c.short; i++ {
		l = append(l, read())
	}
	return l
}

// contentAt reads what the bytes ahead of the sum say; false: they have another form.
func contentAt(b []byte) (content, bool) {
	c := &cursor{rest: b}
	four := func() int64 { return c.number(4) }
	pair := func() [2]int { return [2]int{int(four()), int(four())} }
	said := content{magic: string(c.take(4))}
	said.symbols = several(c, four(), func() string { return string(c.take(int(c.number(2)))) })
	said.rows = several(c, four(), func() row {
		var r row
		r.labels = several(c, c.number(1), pair)
		r.chunks = several(c, four(), func() api.Place {
			from, to := c.number(8), c.number(8)
			return place(from, to, int(c.number(2)), int(four()), int(four()))
		})
		return r
	})
	said.lines = several(c, four(), func() line {
		p := line{label: pair()}
		p.entries = several(c, four(), func() int { return int(four()) })
		return p
	})
	return said, said.magic == "BGIX" && !c.short && len(c.rest) == 0
}

// entriesOf are the entries that a content tells; false: a symbol has a number that is too great, isn't used, or stands in a wrong order.
func (c content) entriesOf() ([]api.Entry, bool) {
	used := map[int]bool{}
	var l []api.Entry
	for _, r := range c.rows {
		e := api.Entry{Chunks: r.chunks}
		for _, x := range r.labels {
			if x[0] >= len(c.symbols) || x[1] >= len(c.symbols) {
				return nil, false
			}
			used[x[0]], used[x[1]] = true, true
			e.Labels = append(e.Labels, api.Label{Name: c.symbols[x[0]], Value: c.symbols[x[1]]})
		}
		l = append(l, e)
	}
	for n := range c.symbols {
		if !used[n] || n > 0 && c.symbols[n-1] >= c.symbols[n] {
			return nil, false
		}
	}
	return l, true
}

// opened is what the chapter says of Open: the entries of the index, or an error. It knows what the bytes have to say, and does not make them again.
func opened(b []byte) ([]api.Entry, api.Errno) {
	if len(b) < 4 || binary.LittleEndian.Uint32(b[len(b)-4:]) != checksum(string(b[:len(b)-4])) {
		return nil, api.ErrIndexSum
	}
	c, ok := contentAt(b[:len(b)-4])
	if !ok {
		return nil, api.ErrIndexForm
	}
	l, ok := c.entriesOf()
	if !ok || !areValid(l) {
		return nil, api.ErrIndexForm
	}
	lines := linesOf(c.rows)
	same := slices.EqualFunc(c.lines, lines, func(a, b line) bool { return a.label == b.label && slices.Equal(a.entries, b.entries) })
	if !same {
		return nil, api.ErrIndexForm
	}
	return l, api.OK
}

// those are the numbers of the entries for whose labels it holds.
func those(l []api.Entry, holds func(set []api.Label) bool) []int {
	var numbers []int
	for n, e := range l {
		if holds(e.Labels) {
			numbers = append(numbers, n)
		}
	}
	return numbers
}

// of is what chapter 13 says of Of.
func of(l []api.Entry, name, value string) []int {
	return those(l, func(set []api.Label) bool { return labels.Get(set, name) == value })
}

// selection is what chapter 13 says of Select.
func selection(l []api.Entry, matchers []api.Matcher) ([]int, api.Errno) {
	if len(matchers) > 32 {
		return nil, api.ErrArg
	}
	for _, m := range matchers {
		if errno := match.Check(m); errno != api.OK {
			return nil, errno
		}
	}
	return those(l, func(set []api.Label) bool { return match.All(matchers, set) }), api.OK
}

func short(s string) string {
	if len(s) > 300 {
		s = s[:300] + ".."
	}
	return s
}

// shown are entries within a message.
func shown(l ...api.Entry) string {
	s := strconv.Itoa(len(l)) + ":"
	for _, e := range l[:min(len(l), 8)] {
		s += " " + short(labels.Print(e.Labels))
		for _, p := range e.Chunks[:min(len(e.Chunks), 8)] {
			s += " [" + strconv.FormatInt(p.From, 10) + " " + strconv.FormatInt(p.To, 10) + " " + strconv.Itoa(p.N) + " " + strconv.Itoa(p.At) + " " + strconv.Itoa(p.Size) + "]"
		}
	}
	return short(s)
}

// matchersShown is a list of matchers within a message.
func matchersShown(l []api.Matcher) string {
	s := ""
	for _, m := range l {
		s += "{" + strconv.Itoa(int(m.Kind)) + " " + strconv.Quote(short(m.Name)) + " " + strconv.Quote(short(m.Value)) + "}"
	}
	return short(s)
}

func isSame(a, b api.Entry) bool {
	return slices.Equal(a.Labels, b.Labels) && slices.Equal(a.Chunks, b.Chunks)
}

// encodes asks Encode for these bytes.
func encodes(t *testing.T, l []api.Entry, want []byte) {
	t.Helper()
	if got, errno := index.Encode(l); errno != api.OK || !bytes.Equal(got, want) {
		t.Errorf("Encode(%s) = %v\n%x, want\n%x", shown(l...), errno, short(string(got)), short(string(want)))
	}
}

// isWrong asks Encode, and Open of what the entries would be as bytes, for ErrIndexForm and nothing beside it.
func isWrong(t *testing.T, what string, l []api.Entry) {
	t.Helper()
	if got, errno := index.Encode(l); errno != api.ErrIndexForm || got != nil {
		t.Errorf("%s: Encode(%s) = %x, %v, want errno 140", what, shown(l...), short(string(got)), errno)
	}
	openFails(t, what, contentOf(l).bytes(), api.ErrIndexForm)
}

// openFails asks Open for an error, and nothing beside it.
func openFails(t *testing.T, what string, b []byte, want api.Errno) {
	t.Helper()
	if x, errno := index.Open(b); errno != want || x != nil {
		t.Errorf("%s: Open(%x): %v, %v, want %v", what, short(string(b)), x != nil, errno, want)
	}
}

// opens asks Open for an index.
func opens(t *testing.T, b []byte) *index.Index {
	t.Helper()
	x, errno := index.Open(b)
	if errno != api.OK || x == nil {
		t.Fatalf("Open(%x): %v, %v, want an index", short(string(b)), x != nil, errno)
	}
	return x
}

// indexOf is an index of these entries, which is held against the chapter.
func indexOf(t *testing.T, l ...api.Entry) *index.Index {
	t.Helper()
	want, errno := encoded(l)
	if errno != api.OK {
		t.Fatalf("%s is not valid", shown(l...))
	}
	encodes(t, l, want)
	x := opens(t, want)
	isAsTheChapter(t, x, l)
	return x
}

// lenIs asks Len for the number of entries, and Entry for no more of them.
func lenIs(t *testing.T, x *index.Index, want int) {
	t.Helper()
	if got := x.Len(); got != want {
		t.Errorf("Len() = %d, want %d", got, want)
	}
	hasNone(t, x, want)
}

// has asks Entry for one.
func has(t *testing.T, x *index.Index, n int, want api.Entry) {
	t.Helper()
	if got, errno := x.Entry(n); errno != api.OK || !isSame(got, want) {
		t.Errorf("Entry(%d) = %s, %v, want %s", n, shown(got), errno, shown(want))
	}
}

// hasNone asks Entry for its error, and nothing beside it.
func hasNone(t *testing.T, x *index.Index, n int) {
	t.Helper()
	if got, errno := x.Entry(n); errno != api.ErrArg || got.Labels != nil || got.Chunks != nil {
		t.Errorf("Entry(%d) = %s, %v, want nothing and errno 1", n, shown(got), errno)
	}
}

// symbolsAre asks Symbols for a list.
func symbolsAre(t *testing.T, x *index.Index, want ...string) {
	t.Helper()
	if got := x.Symbols(); !slices.Equal(got, want) {
		t.Errorf("Symbols() = %q, want %q", got, want)
	}
}

// ofIs asks Of for a list.
func ofIs(t *testing.T, x *index.Index, name, value string, want ...int) {
	t.Helper()
	if got := x.Of(name, value); !slices.Equal(got, want) {
		t.Errorf("Of(%q, %q) = %v, want %v", short(name), short(value), got, want)
	}
}

// selects asks Select for a list.
func selects(t *testing.T, x *index.Index, l []api.Matcher, want ...int) {
	t.Helper()
	if got, errno := x.Select(l); errno != api.OK || !slices.Equal(got, want) {
		t.Errorf("Select(%s) = %v, %v, want %v", matchersShown(l), got, errno, want)
	}
}

// selectFails asks Select for an error, and nothing beside it.
func selectFails(t *testing.T, x *index.Index, l []api.Matcher, want api.Errno) {
	t.Helper()
	if got, errno := x.Select(l); errno != want || got != nil {
		t.Errorf("Select(%s) = %v, %v, want nothing and %v", matchersShown(l), got, errno, want)
	}
}

// selectsAsTheChapter holds Select against what the chapter says of it.
func selectsAsTheChapter(t *testing.T, x *index.Index, l []api.Entry, matchers []api.Matcher) api.Errno {
	t.Helper()
	want, errno := selection(l, matchers)
	if errno == api.OK {
		selects(t, x, matchers, want...)
	} else {
		selectFails(t, x, matchers, errno)
	}
	return errno
}

// isAsTheChapter holds all that an index tells against what the chapter says of one of these entries.
func isAsTheChapter(t *testing.T, x *index.Index, l []api.Entry) {
	t.Helper()
	lenIs(t, x, len(l))
	selects(t, x, nil, those(l, func([]api.Label) bool { return true })...)
	var again []api.Entry
	for n, want := range l {
		has(t, x, n, want)
		e, _ := x.Entry(n)
		again = append(again, e)
	}
	symbolsAre(t, x, symbolsOf(l)...)
	asked := map[api.Label]bool{{Name: "nowhere"}: true, {Name: "nowhere", Value: "x"}: true}
	for _, e := range l {
		for _, label := range e.Labels {
			for _, value := range []string{label.Value, "", "nothing"} {
				asked[api.Label{Name: label.Name, Value: value}] = true
			}
		}
	}
	for label := range asked {
		ofIs(t, x, label.Name, label.Value, of(l, label.Name, label.Value)...)
	}
	want, _ := encoded(l)
	encodes(t, again, want)
}

// opensAsTheChapter holds Open, and the index that it opens, against what the chapter says of it.
func opensAsTheChapter(t *testing.T, what string, b []byte) api.Errno {
	t.Helper()
	l, errno := opened(b)
	if errno != api.OK {
		openFails(t, what, b, errno)
		return errno
	}
	isAsTheChapter(t, opens(t, b), l)
	return api.OK
}
