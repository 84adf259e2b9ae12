package index_test

import (
	"slices"
	"strings"
	"testing"

	"barograph/api"
	"barograph/index"
	"barograph/labels"
	"barograph/match"
	"barograph/postings"
)

func byLabels(a, b api.Entry) int { return labels.Cmp(a.Labels, b.Labels) }

// drawnSet is a set of some labels.
func drawnSet(d *dice) []api.Label {
	var l []api.Label
	for _, name := range []string{"B", "__name__", "a", "a1", "b", "c"} {
		if d.below(2) == 0 {
			l = append(l, api.Label{Name: name, Value: d.oneOf("x", "x", "y", "xy", "1", "a", "b", "\xff", "\x00", "é", "(")})
		}
	}
	return l
}

// drawnTime is a time, mostly near others.
func drawnTime(d *dice) int64 {
	switch d.below(8) {
	case 0:
		return int64(d.number()) >> 10
	case 1:
		return []int64{-1 << 53, 1 << 53}[d.below(2)]
	}
	return int64(d.below(2000) - 1000)
}

// drawnChunks are those of an entry, rising.
func drawnChunks(d *dice) []api.Place {
	var times []int64
	for range 2 * d.below(1+d.below(5)) {
		times = append(times, drawnTime(d))
	}
	slices.Sort(times)
	times = slices.Compact(times)
	var l []api.Place
	for i := 1; i < len(times); i += 2 {
		from := times[i-1+d.below(2)]
		l = append(l, place(from, times[i], 1+d.below(120), d.below(1<<d.below(32)), d.below(1<<d.below(32))))
	}
	return l
}

// drawnEntries are valid ones.
func drawnEntries(d *dice) []api.Entry {
	var l []api.Entry
	for range d.below(1 + d.below(30)) {
		l = append(l, entry(drawnSet(d), drawnChunks(d)...))
	}
	slices.SortFunc(l, byLabels)
	return slices.CompactFunc(l, func(a, b api.Entry) bool { return byLabels(a, b) == 0 })
}

// disturb makes entries wrong in some way, or leaves them valid by chance.
func disturb(d *dice, l []api.Entry) []api.Entry {
	if len(l) == 0 {
		return ofSets(set("", ""))
	}
	at := d.below(len(l))
	e := &l[at]
	switch d.below(12) {
	case 0:
		return slices.Insert(l, d.below(len(l)+1), *e)
	case 1:
		other := d.below(len(l))
		l[at], l[other] = l[other], l[at]
		return l
	case 2:
		e.Labels = append(e.Labels, api.Label{Name: "d"})
		return l
	case 3:
		e.Labels = append(e.Labels, api.Label{Name: d.oneOf("", "1", "a b", "\xff", "c", "d", strings.Repeat("n", 1023+d.below(4))), Value: strings.Repeat("v", 1023+d.below(4))})
		return l
	case 4:
		slices.Reverse(e.Labels)
		return l
	}
	if len(e.Chunks) == 0 {
		e.Chunks = []api.Place{place(0, 0, 1, 0, 0)}
	}
	p := &e.Chunks[d.below(len(e.Chunks))]
	switch d.below(6) {
	case 0:
		p.From = drawnTime(d)
	case 1:
		p.To = drawnTime(d)
	case 2:
		p.N = d.below(3) * d.below(100)
	case 3:
		p.At = int([]int64{-1, 0, 1<<31 - 1, 1 << 31}[d.below(4)])
	case 4:
		p.Size = int([]int64{-1, 0, 1<<31 - 1, 1 << 31}[d.below(4)])
	case 5:
		p.From, p.To = p.To, p.From
	}
	return l
}

// drawnMatcher is a matcher, mostly a right one.
func drawnMatcher(d *dice) api.Matcher {
	m := api.Matcher{Kind: uint8(1 + d.below(4)), Name: d.oneOf("B", "__name__", "a", "a1", "b", "c", "nowhere")}
	if m.Kind < 3 {
		m.Value = d.oneOf("", "x", "y", "xy", "1", "\xff", "\x00", "é", "(", "v")
	} else {
		m.Value = d.oneOf("", ".*", ".+", "x", "x|y", "x?", "x.*", "[^x]+", "[xy]{1,2}", "y?|1", `\(`, "(?:x|1)*", "é", ".")
	}
	switch d.below(60) {
	case 0:
		m.Kind = uint8(d.below(256))
	case 1:
		m.Name = d.oneOf("", "1", "a b", "\xff")
	case 2:
		m.Value = d.oneOf("(", "[", "a**", "a{1000}", strings.Repeat("v", 501), strings.Repeat("v", 1025))
	}
	return m
}

func drawnMatchers(d *dice) []api.Matcher {
	n := d.below(1 + d.below(7))
	if d.below(20) == 0 {
		n = 31 + d.below(4)
	}
	var l []api.Matcher
	for range n {
		l = append(l, drawnMatcher(d))
	}
	return l
}

// enough asks whether each of these has come often enough, so that a test knows that it has seen all of it.
func enough(t *testing.T, told map[string]int, what ...string) {
	t.Helper()
	for _, s := range what {
		if told[s] < 30 {
			t.Errorf("%s: only %d times of %v", s, told[s], told)
		}
	}
}

// Drawn entries and matchers, against the chapter word for word.
func TestDrawnIndexes(t *testing.T) {
	d := dice(14)
	told := map[string]int{}
	for range 400 {
		l := drawnEntries(&d)
		x := indexOf(t, l...)
		for range 20 {
			matchers := drawnMatchers(&d)
			told["Select "+selectsAsTheChapter(t, x, l, matchers).Error()]++
			holdsByItself(t, x, matchers, told)
		}
		for range 20 {
			label := api.Label{Name: d.oneOf("B", "a", "b", "x", ""), Value: d.oneOf("", "x", "a", "\xff", "zz")}
			ofIs(t, x, label.Name, label.Value, of(l, label.Name, label.Value)...)
		}
		isAsTheChapter(t, x, l)
	}
	enough(t, told, "Select errno 0", "Select errno 1", "Select errno 80", "Select errno 81", "Select errno 90", "some entries fit", "all fit", "none fits")
}

// holdsByItself asks for each entry by itself whether it is among those that Select tells if it satisfies all matchers, and only then; and whether an index in memory of the same sets tells the same.
func holdsByItself(t *testing.T, x *index.Index, l []api.Matcher, told map[string]int) {
	t.Helper()
	got, errno := x.Select(l)
	if errno != api.OK {
		return
	}
	inMemory := postings.New()
	for n := range x.Len() {
		e, _ := x.Entry(n)
		inMemory.Add(e.Labels)
		if match.All(l, e.Labels) != slices.Contains(got, n) {
			t.Errorf("Select(%s) = %v, and entry %d is %s", matchersShown(l), got, n, shown(e))
		}
	}
	if want, _ := inMemory.Select(l); !slices.Equal(got, want) {
		t.Errorf("Select(%s) = %v, in memory %v", matchersShown(l), got, want)
	}
	switch len(got) {
	case 0:
		told["none fits"]++
	case x.Len():
		told["all fit"]++
	default:
		told["some entries fit"]++
	}
}

// Drawn entries that are mostly not valid, against the chapter word for word, with the bytes that they would have.
func TestDrawnWrongEntries(t *testing.T) {
	d := dice(140)
	told := map[string]int{}
	for range 10000 {
		l := drawnEntries(&d)
		for range 1 + d.below(2) {
			l = disturb(&d, l)
		}
		if areValid(l) {
			indexOf(t, l...)
			told["valid"]++
		} else {
			isWrong(t, "disturbed", l)
			told["not valid"]++
		}
		told["Open "+opensAsTheChapter(t, "disturbed", contentOf(l).bytes()).Error()]++
	}
	enough(t, told, "valid", "not valid", "Open errno 0", "Open errno 140")
}

// rearrange changes what the bytes of an index say.
func rearrange(d *dice, c *content) {
	few := ints(0, 0, 1, 1, 2, 3, 4, 255, 256, 1<<31, 1<<32-1)
	switch kind := d.below(10); {
	case kind == 0:
		c.counted[d.below(3)] += d.below(3) - 1
	case kind == 1 && len(c.symbols) > 0:
		c.symbols[d.below(len(c.symbols))] = d.oneOf("", "a", "b", "x", "yy", "zz", "0")
	case kind == 2 && len(c.symbols) > 0:
		c.symbols = slices.Insert(c.symbols, d.below(len(c.symbols)+1), d.oneOf("", "a", "b", "x", "y", "zz"))
	case kind == 3 && len(c.symbols) > 0:
		at := d.below(len(c.symbols))
		c.symbols = slices.Delete(c.symbols, at, at+1)
	case kind == 4 && len(c.rows) > 0:
		r := &c.rows[d.below(len(c.rows))]
		if len(r.labels) > 0 {
			r.labels[d.below(len(r.labels))][d.below(2)] = few[d.below(len(few))]
		}
	case kind == 5 && len(c.rows) > 0:
		c.rows[d.below(len(c.rows))].counted[d.below(2)] += d.below(3) - 1
	case kind == 6 && len(c.lines) > 0:
		c.lines[d.below(len(c.lines))].label[d.below(2)] = few[d.below(len(few))]
	case kind == 7 && len(c.lines) > 0:
		p := &c.lines[d.below(len(c.lines))]
		p.entries[d.below(len(p.entries))] = few[d.below(len(few))]
	case kind == 8 && len(c.lines) > 1:
		a, b := d.below(len(c.lines)), d.below(len(c.lines))
		c.lines[a], c.lines[b] = c.lines[b], c.lines[a]
	case kind == 9:
		c.behind = strings.Repeat("\x00", d.below(9))
	}
}

// Bytes that say something else than an index does, or another index, with a right sum.
func TestDrawnOtherBytes(t *testing.T) {
	d := dice(1400)
	told := map[string]int{}
	for range 10000 {
		c := contentOf(drawnEntries(&d))
		rearrange(&d, &c)
		if d.below(2) == 0 {
			c.lines = linesOf(c.rows)
		}
		told["rearranged: "+opensAsTheChapter(t, "rearranged", c.bytes()).Error()]++
		b := contentOf(drawnEntries(&d)).bytes()
		for range 1 + d.below(3) {
			b[d.below(len(b))] = byte(d.below(256) >> d.below(9))
		}
		told["changed: "+opensAsTheChapter(t, "changed", b).Error()]++
		told["changed, with a sum: "+opensAsTheChapter(t, "changed", resummed(b)).Error()]++
		told["cut: "+opensAsTheChapter(t, "cut", b[:d.below(len(b))]).Error()]++
	}
	enough(t, told, "rearranged: errno 0", "rearranged: errno 140", "changed: errno 141", "changed, with a sum: errno 0", "changed, with a sum: errno 140", "cut: errno 141")
}

// The same entries make the same bytes at every time, and the same index tells the same.
func TestSameEntriesTellTheSame(t *testing.T) {
	d := dice(141)
	for range 20 {
		l := drawnEntries(&d)
		want, _ := encoded(l)
		x := opens(t, want)
		matchers := drawnMatchers(&d)
		for range 10 {
			encodes(t, l, want)
			isAsTheChapter(t, x, l)
			selectsAsTheChapter(t, x, l, matchers)
		}
	}
}
