package index_test

import (
	"bytes"
	"runtime"
	"slices"
	"strconv"
	"strings"
	"sync"
	"testing"

	"barograph/api"
	"barograph/index"
)

// roomy is a copy of a list with others behind its end, in the same memory.
func roomy[E any](l []E, behind ...E) []E {
	return append(slices.Clone(l), behind...)[:len(l)]
}

// hasStayed tells whether a roomy list is as it was, and what is behind it too.
func hasStayed[E comparable](l, want []E, behind ...E) bool {
	return slices.Equal(l, want) && slices.Equal(l[len(l):len(l)+len(behind)], behind)
}

// scribble changes a list, and what there is room for behind it.
func scribble[E any](l []E, x E) {
	l = l[:cap(l)]
	for i := range l {
		l[i] = x
	}
}

// What lies behind the lists that roomyEntries makes.
var (
	labelBehind = api.Label{Name: "zz", Value: "behind"}
	placeBehind = api.Place{From: 1 << 52, To: 1 << 52, N: 9, At: 9, Size: 9}
	entryBehind = api.Entry{Labels: []api.Label{{Name: "zzz", Value: "behind"}}}
)

// roomyEntries are entries with others behind the end of each list.
func roomyEntries(l []api.Entry) []api.Entry {
	var all []api.Entry
	for _, e := range l {
		all = append(all, api.Entry{Labels: roomy(e.Labels, labelBehind), Chunks: roomy(e.Chunks, placeBehind)})
	}
	return roomy(all, entryBehind)
}

// haveStayed asks whether roomy entries are as they were, and what is behind them too.
func haveStayed(t *testing.T, l, want []api.Entry) {
	t.Helper()
	if len(l) != len(want) || !isSame(l[:len(l)+1][len(l)], entryBehind) {
		t.Error("the list of entries is changed")
	}
	for n, e := range want {
		if !hasStayed(l[n].Labels, e.Labels, labelBehind) || !hasStayed(l[n].Chunks, e.Chunks, placeBehind) {
			t.Errorf("%s has become %s", shown(e), shown(l[n]))
		}
	}
}

// What Encode is given, right or wrong, stays as it is; what lies behind it is neither changed nor read; and it may be written over later.
func TestEntriesThatAreHandedInStay(t *testing.T) {
	wrong := [][]api.Entry{ofSets(set("b", "1"), set("a", "1")), ofSets(set("b", "1", "a", "1")), entries(entry(nil, place(5, 5, 1, 0, 0), place(1, 1, 1, 0, 0))), many(4097)}
	for _, want := range append(wrong, nil, ofSets(nil), some(), many(100)) {
		l := roomyEntries(want)
		first, errno := index.Encode(l)
		second, _ := index.Encode(l)
		bytesWant, errnoWant := encoded(want)
		haveStayed(t, l, want)
		for _, e := range l {
			scribble(e.Labels, api.Label{Name: "scribbled", Value: "x"})
			scribble(e.Chunks, place(0, 0, 1, 0, 0))
		}
		scribble(l, api.Entry{})
		if errno != errnoWant || !bytes.Equal(first, bytesWant) || !bytes.Equal(second, bytesWant) {
			t.Errorf("Encode(%s) hangs on what it was given: %x, %v", shown(want...), short(string(first)), errno)
		}
	}
}

// The bytes that come out of Encode are their owner's.
func TestBytesAreTheirOwners(t *testing.T) {
	for _, l := range [][]api.Entry{nil, ofSets(nil), some()} {
		want, _ := encoded(l)
		first, _ := index.Encode(l)
		second, _ := index.Encode(l)
		x := opens(t, first)
		scribble(append(first, 0xee), 0xee)
		scribble(first, 0xee)
		if !bytes.Equal(second, want) {
			t.Errorf("%x shares memory", second)
		}
		isAsTheChapter(t, x, l)
		encodes(t, l, want)
	}
}

// What Open is given, right or wrong, stays as it is; what lies behind it is neither changed nor read; and it may be written over later.
func TestBytesThatAreHandedInStay(t *testing.T) {
	for _, l := range [][]api.Entry{nil, ofSets(nil), some(), many(100)} {
		want := contentOf(l).bytes()
		for _, behind := range [][]byte{{0xee, 0xee}, {0}, want} {
			b := roomy(want, behind...)
			x := opens(t, b)
			if !hasStayed(b, want, behind...) {
				t.Errorf("%x has become %x", want, b[:cap(b)])
			}
			scribble(b, 0xee)
			isAsTheChapter(t, x, l)
		}
		for at := range min(len(want), 200) {
			for _, want := range [][]byte{want[:at], summed(string(want[:at])), resummed(append(slices.Clone(want[:at]), 1, 2, 3, 4, 5, 6, 7, 8))} {
				b := roomy(want, 0xee, 0xee)
				index.Open(b)
				if !hasStayed(b, want, 0xee, 0xee) {
					t.Errorf("%x has become %x", want, b[:cap(b)])
				}
			}
		}
	}
}

// What comes out of an index is its owner's: writing into it, and behind it, changes nothing of the index and no other answer.
func TestAnswersAreTheirOwners(t *testing.T) {
	l := some()
	x := indexOf(t, l...)
	for range 3 {
		var kept []api.Entry
		for n := range l {
			first, _ := x.Entry(n)
			second, _ := x.Entry(n)
			scribble(append(second.Labels, labelBehind), labelBehind)
			scribble(append(second.Chunks, placeBehind), placeBehind)
			scribble(second.Labels, labelBehind)
			scribble(second.Chunks, placeBehind)
			kept = append(kept, first)
			isAsTheChapter(t, x, l)
		}
		symbols := x.Symbols()
		scribble(append(x.Symbols(), "scribbled"), "scribbled")
		scribble(x.Symbols(), "scribbled")
		for _, ask := range []func() []int{
			func() []int { return x.Of("a", "y") },
			func() []int { return x.Of("b", "x") },
			func() []int { return x.Of("a", "") },
			func() []int { return x.Of("nowhere", "") },
			func() []int { all, _ := x.Select(nil); return all },
			func() []int { all, _ := x.Select(list(eq("b", "x"))); return all },
			func() []int { all, _ := x.Select(list(re("b", ".*"))); return all },
			func() []int { all, _ := x.Select(list(re("nowhere", ".*"), ne("a", "b"))); return all },
		} {
			first, want := ask(), slices.Clone(ask())
			scribble(append(ask(), 99), 99)
			scribble(ask(), 99)
			if !slices.Equal(first, want) || !slices.Equal(ask(), want) {
				t.Errorf("%v, then %v: an answer hangs on another one", want, ask())
			}
		}
		isAsTheChapter(t, x, l)
		for n, e := range l {
			if !isSame(kept[n], e) {
				t.Errorf("Entry(%d) has become %s", n, shown(kept[n]))
			}
		}
		if !slices.Equal(symbols, symbolsOf(l)) {
			t.Errorf("Symbols() has become %q", symbols)
		}
	}
}

// Matchers stay as they are, and are not kept.
func TestMatchersThatAreHandedInStay(t *testing.T) {
	x := indexOf(t, some()...)
	for _, want := range [][]api.Matcher{nil, list(eq("a", "b")), list(nr("a", "y"), re("a", ".*"), ne("b", "x")), list(re("a", "("), eq("a", "b")), times(32, eq("a", "b")), times(33, re("a", "("))} {
		l := roomy(want, eq("a", "nothing"), re("a", "("))
		first, e := x.Select(l)
		if !hasStayed(l, want, eq("a", "nothing"), re("a", "(")) {
			t.Errorf("%s has become %s", matchersShown(want), matchersShown(l))
		}
		scribble(l, eq("scribbled", "x"))
		if again, errno := x.Select(want); errno != e || !slices.Equal(first, again) {
			t.Errorf("Select(%s) = %v, %v, and then %v, %v", matchersShown(want), first, e, again, errno)
		}
	}
}

// inUse is how much memory is.
func inUse() uint64 {
	var m runtime.MemStats
	runtime.GC()
	runtime.ReadMemStats(&m)
	return m.HeapAlloc
}

// asked is how much memory a call has asked for, whether it is given back or not.
func asked(call func()) uint64 {
	var before, after runtime.MemStats
	runtime.ReadMemStats(&before)
	call()
	runtime.ReadMemStats(&after)
	return after.TotalAlloc - before.TotalAlloc
}

// A text that comes out of an index does not hold on to the others, nor an index to the bytes that it was read from.
func TestLittleIsKept(t *testing.T) {
	l := many(4000)
	for n := range l {
		l[n].Labels[0].Value = strings.Repeat("v", 1000) + strconv.Itoa(10000+n)
	}
	b, _ := index.Encode(l)
	before := inUse()
	var texts []string
	for n := range 16 {
		x := opens(t, b)
		e, _ := x.Entry(n)
		texts = append(texts, x.Symbols()[n+1], e.Labels[0].Name, e.Labels[0].Value)
	}
	if after := inUse(); after > before+16<<20 {
		t.Errorf("%d texts hold on to %d bytes", len(texts), after-before)
	}
	// The chunks are less as they are kept than as bytes and as they are kept together.
	var chunks []api.Place
	for i := range int64(100000) {
		chunks = append(chunks, place(i, i, 1, 0, 0))
	}
	b, _ = index.Encode(entries(entry(nil, chunks...)))
	before = inUse()
	var indexes []*index.Index
	for range 10 {
		indexes = append(indexes, opens(t, slices.Clone(b)))
	}
	if after := inUse(); after > before+10*60*100000 {
		t.Errorf("%d indexes hold on to %d bytes", len(indexes), after-before)
	}
	runtime.KeepAlive(texts)
	runtime.KeepAlive(indexes)
}

// Counts that are too great do not ask for memory: Open needs no more than some times what it is given.
func TestGreatCountsAskForLittleMemory(t *testing.T) {
	b := contentOf(some()).bytes()
	at, width := counts(t)
	for i := range at {
		c := slices.Clone(b)
		copy(c[at[i]:], strings.Repeat("\xff", width[i]))
		c = resummed(c)
		if n := asked(func() { isMalformed(t, "a great count", c) }); n > 1<<20 {
			t.Errorf("%d bytes were asked for", n)
		}
	}
	many := strings.Repeat("\x00", 16<<20)
	for what, s := range map[string]string{
		"symbols": "BGIX" + four(8<<20) + many,
		"entries": "BGIX" + four(0) + four(3<<20) + many,
		"chunks":  "BGIX" + four(0) + four(1) + "\x00" + four(600000) + many,
		"labels":  "BGIX" + four(1) + "\x01\x00a" + four(4096) + strings.Repeat("\x40"+many[:512]+four(0), 4096),
	} {
		b := summed(s)
		x, errno := index.Open(b)
		if errno != api.ErrIndexForm || x != nil {
			t.Errorf("many %s: %v", what, errno)
		}
		if n := asked(func() { index.Open(b) }); n > uint64(16*len(b)) {
			t.Errorf("many %s: %d bytes were asked for, of %d", what, n, len(b))
		}
	}
}

// Long texts that many entries have are there once.
func TestLongTextsOfManyEntries(t *testing.T) {
	long := func(s string) string { return strings.Repeat(s, 1022) }
	shared := set(long("b")+"00", long("x"))
	for i := 1; i < 63; i++ {
		shared = append(shared, api.Label{Name: long("b") + strconv.Itoa(10+i), Value: long("x") + strconv.Itoa(10+i%9)})
	}
	var l []api.Entry
	for n := range 4096 {
		l = append(l, entry(append(set("a", strconv.Itoa(10000+n)), shared...)))
	}
	var b []byte
	var x *index.Index
	n := asked(func() {
		b, _ = index.Encode(l)
		x, _ = index.Open(b)
	})
	if want, _ := encoded(l); !bytes.Equal(b, want) || n > uint64(60*len(b)) {
		t.Errorf("%d bytes were asked for, of %d", n, len(b))
	}
	lenIs(t, x, 4096)
	has(t, x, 4095, l[4095])
	selects(t, x, list(eq("a", "14095"), eq(shared[62].Name, shared[62].Value)), 4095)
}

// Indexes may be used at the same time, each by itself, or one that is only asked.
func TestCallsAtTheSameTime(t *testing.T) {
	l := some()
	shared := indexOf(t, l...)
	b, _ := index.Encode(l)
	var wait sync.WaitGroup
	for i := range 8 {
		wait.Go(func() {
			for n := range 50 {
				own := ofSets(set("a", strconv.Itoa(i)), set("a", strconv.Itoa(i), "n", strconv.Itoa(n)))
				want, _ := encoded(own)
				encodes(t, own, want)
				x, errno := index.Open(want)
				if errno != api.OK {
					t.Error(errno)
					return
				}
				isAsTheChapter(t, x, own)
				openFails(t, "short", b[:len(b)-1], api.ErrIndexSum)
				encodes(t, l, b)
				isAsTheChapter(t, shared, l)
				selects(t, shared, list(re("a", "y.*"), ne("b", "1")), 2, 3)
			}
		})
	}
	wait.Wait()
}
