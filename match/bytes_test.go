package match_test

import (
	"slices"
	"strings"
	"testing"

	"barograph/api"
	"barograph/match"
)

// concat puts bytes behind one another, given as texts.
func concat(parts ...string) []byte { return []byte(strings.Join(parts, "")) }

func TestEncodeToTheByte(t *testing.T) {
	for _, x := range []struct {
		l    []api.Matcher
		want []byte
	}{
		{nil, concat("\x00")},
		{[]api.Matcher{}, concat("\x00")},
		{list(eq("a", "x")), concat("\x01", "\x01", "\x01\x00a", "\x01\x00x")},
		{list(ne("a", "x")), concat("\x01", "\x02", "\x01\x00a", "\x01\x00x")},
		{list(re("a", "x.*")), concat("\x01", "\x03", "\x01\x00a", "\x03\x00x.*")},
		{list(nr("ab", "x|y")), concat("\x01", "\x04", "\x02\x00ab", "\x03\x00x|y")},
		{list(eq("a", "")), concat("\x01", "\x01", "\x01\x00a", "\x00\x00")},
		{list(re("a", ""), nr("b", "")), concat("\x02", "\x03", "\x01\x00a", "\x00\x00", "\x04", "\x01\x00b", "\x00\x00")},
		{list(nr("b", "2"), eq("a", "1"), nr("b", "2")), concat("\x03", "\x04\x01\x00b\x01\x002", "\x01\x01\x00a\x01\x001", "\x04\x01\x00b\x01\x002")},
		{list(ne("a", allBytes())), concat("\x01", "\x02", "\x01\x00a", "\x00\x01", allBytes())},
	} {
		encodes(t, x.l, x.want)
		decodes(t, x.want, x.l, len(x.want))
		decodes(t, append(x.want, "behind"...), x.l, len(x.want))
	}
}

func TestEncodeOfLengths(t *testing.T) {
	for _, x := range []struct {
		size   int
		length string
	}{{0, "\x00\x00"}, {1, "\x01\x00"}, {127, "\x7f\x00"}, {128, "\x80\x00"}, {254, "\xfe\x00"}, {255, "\xff\x00"}, {256, "\x00\x01"}, {257, "\x01\x01"}, {500, "\xf4\x01"}, {511, "\xff\x01"}, {512, "\x00\x02"}, {767, "\xff\x02"}, {1023, "\xff\x03"}, {1024, "\x00\x04"}} {
		name, value := strings.Repeat("n", x.size), strings.Repeat("v", x.size)
		both := func(m api.Matcher, want []byte) {
			t.Helper()
			encodes(t, list(m), want)
			decodes(t, want, list(m), len(want))
			decodes(t, append(want, "behind"...), list(m), len(want))
		}
		both(eq("a", value), concat("\x01", "\x01", "\x01\x00a", x.length, value))
		both(ne("a", value), concat("\x01", "\x02", "\x01\x00a", x.length, value))
		if x.size > 0 {
			both(re(name, "x"), concat("\x01", "\x03", x.length, name, "\x01\x00x"))
			both(eq(name, value), concat("\x01", "\x01", x.length, name, x.length, value))
		} else {
			encodeFails(t, list(re(name, "x")), api.ErrMatchForm)
			decodeFails(t, concat("\x01", "\x03", x.length, name, "\x01\x00x"))
		}
		if x.size <= 500 {
			both(nr("a", value), concat("\x01", "\x04", "\x01\x00a", x.length, value))
		} else {
			encodeFails(t, list(nr("a", value)), api.ErrRegexLong)
			decodeFails(t, concat("\x01", "\x04", "\x01\x00a", x.length, value))
		}
	}
}

func TestEncodeOfEachNumber(t *testing.T) {
	for n := range 33 {
		l := many(n)
		want := concat(string([]byte{byte(n)}))
		for _, m := range l {
			want = append(want, concat(string([]byte{m.Kind}), "\x04\x00", m.Name, string([]byte{byte(len(m.Value)), 0}), m.Value)...)
		}
		encodes(t, l, want)
		decodes(t, want, l, len(want))
		decodes(t, append(want, want...), l, len(want))
	}
	for _, n := range []int{33, 34, 64, 255, 256, 257, 260} {
		encodeFails(t, many(n), api.ErrArg)
	}
	encodeFails(t, slices.Repeat(many(32), 2049)[:65536], api.ErrArg)
}

// The largest of all: 32 matchers, each as long as it may be.
func TestEncodeOfTheLongest(t *testing.T) {
	l := slices.Repeat(list(eq(strings.Repeat("n", 1024), allBytes()+allBytes()+allBytes()+allBytes())), 32)
	b := raw(l)
	if len(b) != 1+32*(1+2+1024+2+1024) {
		t.Error(len(b))
	}
	encodes(t, l, b)
	decodes(t, b, l, len(b))
	decodeFails(t, b[:len(b)-1])
}

// What is wrong in a list is told wherever it stands.
func TestEncodeOfWhatIsNoMatcher(t *testing.T) {
	for want, l := range bad() {
		for _, m := range l {
			encodeFails(t, list(m), want)
			for _, n := range []int{1, 2, 5, 31} {
				for at := range n + 1 {
					encodeFails(t, with(many(n), at, m), want)
				}
			}
		}
	}
}

func TestEncodeTellsTheFirstError(t *testing.T) {
	for first, l := range bad() {
		for second, others := range bad() {
			m, other := l[0], others[len(others)-1]
			encodeFails(t, list(m, other), first)
			encodeFails(t, list(other, m), second)
			encodeFails(t, list(eq("a", "1"), m, re("a", "1"), other, m), first)
			encodeFails(t, with(with(many(30), 30, m), 31, other), first)
		}
		// Too many is told ahead of what is wrong in them.
		for _, m := range l {
			for _, at := range []int{0, 16, 31, 32} {
				encodeFails(t, with(many(32), at, m), api.ErrArg)
			}
			encodeFails(t, slices.Repeat(list(m), 33), api.ErrArg)
			encodeFails(t, slices.Repeat(list(m), 256), api.ErrArg)
			encodeFails(t, slices.Repeat(list(m), 32), first)
		}
	}
}

// Whatever is wrong with a matcher, Decode has one error for it.
func TestDecodeOfWhatIsNoMatcher(t *testing.T) {
	for _, l := range bad() {
		for _, m := range l {
			decodeFails(t, raw(list(m)))
			decodeFails(t, append(raw(list(m)), "behind"...))
			for _, n := range []int{1, 3, 31} {
				for _, at := range []int{0, n / 2, n} {
					decodeFails(t, raw(with(many(n), at, m)))
				}
			}
		}
	}
	// What is wrong behind the encoding does not matter.
	wrong := raw(list(re("a", "(")))
	decodes(t, append(raw(many(2)), wrong[1:]...), many(2), len(raw(many(2))))
	// As above, but for what was wrong.
	decodes(t, raw(good()), good(), len(raw(good())))
}

func TestDecodeOfEachKind(t *testing.T) {
	for kind := range 256 {
		b := concat("\x01", string([]byte{byte(kind)}), "\x01\x00a", "\x01\x00x")
		if kind >= 1 && kind <= 4 {
			decodes(t, b, list(one(uint8(kind), "a", "x")), 8)
		} else {
			decodeFails(t, b)
		}
	}
}

func TestDecodeOfCounts(t *testing.T) {
	body := func(n int) string { return string(raw(many(n))[1:]) }
	for n := range 256 {
		b := concat(string([]byte{byte(n)}), body(n))
		for _, behind := range []string{"", "\x00", body(40), "\xff\xff\xff\xff\xff\xff"} {
			x := append(slices.Clone(b), behind...)
			if n <= 32 {
				decodes(t, x, many(n), len(b))
			} else {
				decodeFails(t, x)
			}
		}
		// Nothing, or too little, behind the count.
		if n > 0 {
			decodeFails(t, []byte{byte(n)})
			decodeFails(t, concat(string([]byte{byte(n)}), body(n-1)))
			decodeFails(t, concat(string([]byte{byte(n)}), body(n-1), "\x01"))
			decodeFails(t, concat(string([]byte{byte(n)}), body(n-1), "\x01\x01\x00a\x00"))
		}
	}
	decodes(t, []byte{0}, nil, 1)
	decodes(t, []byte{0, 33, 1}, nil, 1)
}

func TestDecodeOfBytesCutShort(t *testing.T) {
	decodeFails(t, nil)
	decodeFails(t, []byte{})
	for _, l := range [][]api.Matcher{list(eq("a", "x")), list(re("abc", "x.*"), ne("b", "")), list(nr("a", "")), list(eq("a", "\x01\x01\x00a\x00\x00")), many(32), good(), list(eq("a", strings.Repeat("\x00", 300)))} {
		b := raw(l)
		for i := 0; i < len(b); i += 1 + i/300 {
			decodeFails(t, b[:i])
			// What lies behind the end, in the same memory, isn't read.
			decodeFails(t, slices.Clip(b[:i]))
		}
		decodeFails(t, b[:len(b)-1])
		decodes(t, b, l, len(b))
	}
}

// Lengths that go beyond the end, by one byte or by many, and such as don't.
func TestDecodeOfLengthsBeyondTheEnd(t *testing.T) {
	for _, size := range []int{1, 2, 3, 5, 254, 255, 256, 257, 512, 1023, 1024} {
		length := func(n int) string { return string([]byte{byte(n % 256), byte(n / 256)}) }
		n, v := strings.Repeat("n", size), strings.Repeat("v", size)
		decodes(t, concat("\x01\x01", length(size), n, "\x01\x00x"), list(eq(n, "x")), size+7)
		decodes(t, concat("\x01\x01\x01\x00a", length(size), v), list(eq("a", v)), size+7)
		for _, more := range []int{1, 2, 3, 4, 255, 256, 1000, 60000} {
			decodeFails(t, concat("\x01\x01", length(size+more), n))
			decodeFails(t, concat("\x01\x01\x01\x00a", length(size+more), v))
		}
		// The value is all that is left but its last byte, which lies behind it.
		decodes(t, concat("\x01\x01\x01\x00a", length(size-1), v), list(eq("a", v[1:])), size+6)
	}
	decodeFails(t, concat("\x01\x01\xff\xff"))
	decodeFails(t, concat("\x01\x01\x01\x00a\xff\xff"))
	decodeFails(t, concat("\x01\x01\x01\x00a\xff\xffx"))
	// The upper byte of a length counts.
	decodeFails(t, concat("\x01\x01\x01\x01a\x01\x00x"))
	decodeFails(t, concat("\x01\x01\x01\x00a\x01\x01x"))
	decodeFails(t, concat("\x01\x01\x00\x01a\x01\x00x"))
	// As long as they say, but longer than a name or a value may be.
	for _, size := range []int{1025, 1280, 32768, 65535} {
		decodeFails(t, raw(list(eq(strings.Repeat("n", size), "x"))))
		decodeFails(t, raw(list(eq("a", strings.Repeat("v", size)))))
		decodeFails(t, append(raw(list(ne("a", strings.Repeat("v", size)))), "behind"...))
	}
}

func TestDecodeOfWhatFollows(t *testing.T) {
	for _, l := range [][]api.Matcher{nil, list(eq("a", "1")), list(re("a", ".*"), nr("b", "")), many(32)} {
		b := raw(l)
		for c := range 256 {
			decodes(t, append(slices.Clone(b), byte(c)), l, len(b))
			decodes(t, append(slices.Clone(b), strings.Repeat(string([]byte{byte(c)}), 300)...), l, len(b))
		}
		decodes(t, slices.Concat(b, b), l, len(b))
		decodes(t, append(b, make([]byte, 1<<20)...), l, len(b))
	}
}

// A byte that is changed, is more or is missing is told, or other matchers are, but never the same ones.
func TestDecodeOfChangedBytes(t *testing.T) {
	for _, l := range [][]api.Matcher{nil, list(eq("a", "1")), list(re("a", "x.*")), list(nr("ab", `[a-c]\d`), ne("b", "")), list(eq("a", "\x01\x00b\x01\x00"), re("b", "(a)|"), eq("a", "")), list(eq(strings.Repeat("a", 17), strings.Repeat("\x01", 17)))} {
		b := raw(l)
		for at := range b {
			for c := range 256 {
				x := slices.Clone(b)
				x[at] = byte(c)
				decodesAsTheChapter(t, x)
				decodesAsTheChapter(t, slices.Insert(slices.Clone(b), at, byte(c)))
				if got, n, errno := match.Decode(x); byte(c) != b[at] && errno == api.OK && n == len(b) && slices.Equal(got, l) {
					t.Errorf("Decode(%s) does not tell the change at %d", bytesShown(x), at)
				}
			}
			decodesAsTheChapter(t, slices.Delete(slices.Clone(b), at, at+1))
		}
	}
}

// All short sequences of the bytes that an encoding is made of.
func TestDecodeOfAllShortBytes(t *testing.T) {
	var grow func(b []byte, left int)
	grow = func(b []byte, left int) {
		decodesAsTheChapter(t, b)
		if left == 0 || t.Failed() {
			return
		}
		for _, c := range []byte{0, 1, 2, 3, 'a', '('} {
			grow(append(slices.Clone(b), c), left-1)
		}
	}
	grow(nil, 5)
	grow([]byte{1, 3, 1, 0, 'a', 1}, 3)
	grow([]byte{1, 3, 1, 0, 'a', 2, 0}, 3)
	grow([]byte{2, 4, 1, 0, 'a', 1, 0, 'x', 1, 1, 0}, 4)
}
