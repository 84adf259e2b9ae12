package labels_test

import (
	"slices"
	"strings"
	"testing"

	"barograph/api"
	"barograph/labels"
)

func TestExampleOfEncode(t *testing.T) {
	encodes(t, list("a", "1"), []byte{1, 1, 0, 0x61, 1, 0, 0x31})
}

// concat puts bytes behind one another, given as texts.
func concat(parts ...string) []byte { return []byte(strings.Join(parts, "")) }

func TestEncodeToTheByte(t *testing.T) {
	for _, x := range []struct {
		l    []api.Label
		want []byte
	}{
		{nil, concat("\x00")},
		{[]api.Label{}, concat("\x00")},
		{list("a", "1", "b", "xyz"), concat("\x02", "\x01\x00a", "\x01\x001", "\x01\x00b", "\x03\x00xyz")},
		{list("__name__", "up", "le", "+Inf"), concat("\x02", "\x08\x00__name__", "\x02\x00up", "\x02\x00le", "\x04\x00+Inf")},
		{list("a", "\x00\xff\""), concat("\x01", "\x01\x00a", "\x03\x00\x00\xff\"")},
		{list("a", allBytes()), concat("\x01", "\x01\x00a", "\x00\x01", allBytes())},
	} {
		encodes(t, x.l, x.want)
		decodes(t, x.want, x.l, len(x.want))
	}
	for _, x := range []struct {
		size   int
		length string
	}{{1, "\x01\x00"}, {2, "\x02\x00"}, {127, "\x7f\x00"}, {128, "\x80\x00"}, {254, "\xfe\x00"}, {255, "\xff\x00"}, {256, "\x00\x01"}, {257, "\x01\x01"}, {511, "\xff\x01"}, {512, "\x00\x02"}, {767, "\xff\x02"}, {1000, "\xe8\x03"}, {1023, "\xff\x03"}, {1024, "\x00\x04"}} {
		name, value := strings.Repeat("n", x.size), strings.Repeat("v", x.size)
		for _, y := range []struct {
			l    []api.Label
			want []byte
		}{
			{list(name, "1"), concat("\x01", x.length, name, "\x01\x001")},
			{list("a", value), concat("\x01", "\x01\x00a", x.length, value)},
			{list(name, value, "z", value), concat("\x02", x.length, name, x.length, value, "\x01\x00z", x.length, value)},
		} {
			encodes(t, y.l, y.want)
			decodes(t, y.want, y.l, len(y.want))
			decodes(t, append(y.want, "behind"...), y.l, len(y.want))
		}
	}
}

func TestEncodeOfEachNumber(t *testing.T) {
	for n := range 65 {
		want := concat(string([]byte{byte(n)}))
		for _, x := range many(n) {
			want = append(want, concat("\x04\x00", x.Name, "\x01\x00v")...)
		}
		encodes(t, many(n), want)
		decodes(t, want, many(n), len(want))
	}
}

// encodeFails asks Encode for Check's error, and nothing beside it.
func encodeFails(t *testing.T, l []api.Label, want api.Errno) {
	t.Helper()
	if got, errno := labels.Encode(l); errno != want || len(got) != 0 {
		t.Errorf("Encode(%s) = %x, %v, want nothing and %v", shown(l), got, errno, want)
	}
}

func TestEncodeOfListsThatAreNoSets(t *testing.T) {
	const form, twice, most = api.ErrLabelsForm, api.ErrLabelsTwice, api.ErrLabelsMany
	encodeFails(t, list("", "1"), form)
	encodeFails(t, list("1", "1"), form)
	encodeFails(t, list("a", ""), form)
	encodeFails(t, list("a", "1", "b", ""), form)
	encodeFails(t, list(strings.Repeat("n", 1025), "1"), form)
	encodeFails(t, list("a", strings.Repeat("v", 1025)), form)
	encodeFails(t, list("b", "1", "a", "1"), form)
	encodeFails(t, list("a", "1", "a", "1"), twice)
	encodeFails(t, list("a", "1", "a", ""), form)
	encodeFails(t, list("b", "1", "a", "1", "b", "1"), twice)
	encodeFails(t, many(65), most)
	encodeFails(t, many(256), most)
	encodeFails(t, many(257), most)
	encodeFails(t, append(many(64), list("", "")...), most)
	encodeFails(t, append(many(64), list("n000", "")...), most)
}

// raw are the bytes of any list, whether it is a set or not.
func raw(l []api.Label) []byte {
	b := []byte{byte(len(l))}
	for _, x := range l {
		b = append(b, byte(len(x.Name)), byte(len(x.Name)>>8))
		b = append(b, x.Name...)
		b = append(b, byte(len(x.Value)), byte(len(x.Value)>>8))
		b = append(b, x.Value...)
	}
	return b
}

func TestDecodeOfListsThatAreNoSets(t *testing.T) {
	for _, l := range [][]api.Label{
		list("", "1"),
		list("1", "1"),
		list("a-b", "1"),
		list("\xff", "1"),
		list("a", ""),
		list("a", "1", "b", ""),
		list("a", "", "b", "1"),
		list("", ""),
		list(strings.Repeat("n", 1025), "1"),
		list("a", strings.Repeat("v", 1025)),
		list(strings.Repeat("n", 1280), "1"),
		list("a", strings.Repeat("v", 32768)),
		list(strings.Repeat("n", 65535), "1"),
		list("a", strings.Repeat("v", 65535)),
		list("b", "1", "a", "1"),
		list("a", "1", "c", "1", "b", "1"),
		list("a", "1", "a", "1"),
		list("a", "1", "a", "2"),
		list("a", "1", "b", "1", "a", "1"),
		many(65),
		many(66),
		many(128),
		many(255),
		append(many(64), list("a", "1")...),
		append(many(64), list("n000", "1")...),
	} {
		decodeFails(t, raw(l))
		decodeFails(t, append(raw(l), "behind"...))
	}
	// As above, but for what was wrong.
	for _, l := range [][]api.Label{list("a", "1", "b", "1"), list(strings.Repeat("n", 1024), strings.Repeat("v", 1024)), many(64)} {
		decodes(t, raw(l), l, len(raw(l)))
	}
}

func TestDecodeOfBytesCutShort(t *testing.T) {
	decodeFails(t, nil)
	decodeFails(t, []byte{})
	for _, l := range printed() {
		b := raw(l)
		for i := 0; i < len(b); i += 1 + i/200 {
			decodeFails(t, b[:i])
			// What lies behind the end, in the same memory, isn't read.
			decodeFails(t, slices.Clip(b[:i]))
		}
		decodeFails(t, b[:len(b)-1])
		decodes(t, b, l, len(b))
	}
	// Each number of labels, and nothing or too little behind it.
	for n := 1; n < 256; n++ {
		decodeFails(t, []byte{byte(n)})
		decodeFails(t, []byte{byte(n), 0})
		decodeFails(t, []byte{byte(n), 0, 0})
		decodeFails(t, []byte{byte(n), 0, 0, 0, 0})
		decodeFails(t, append([]byte{byte(n)}, raw(many(n - 1))[1:]...))
		decodeFails(t, append([]byte{byte(n)}, 0xff, 0xff))
		decodeFails(t, append([]byte{byte(n)}, 1, 0, 'a', 0xff, 0xff, '1'))
		decodeFails(t, append([]byte{byte(n)}, 1, 0, 'a', 1, 0))
	}
}

func TestDecodeOfWhatFollows(t *testing.T) {
	for _, l := range [][]api.Label{nil, list("a", "1"), list("a", "1", "b", "2"), many(64)} {
		b := raw(l)
		for c := range 256 {
			decodes(t, append(slices.Clone(b), byte(c)), l, len(b))
			decodes(t, append(slices.Clone(b), strings.Repeat(string([]byte{byte(c)}), 300)...), l, len(b))
		}
		decodes(t, slices.Concat(b, b), l, len(b))
		decodes(t, append(b, make([]byte, 1<<20)...), l, len(b))
	}
}

// decodesAsTheChapter holds Decode of any bytes against what the chapter says of it.
func decodesAsTheChapter(t *testing.T, b []byte) {
	t.Helper()
	want, n, errno := decodeOf(b)
	if errno == api.OK {
		decodes(t, b, want, n)
	} else {
		decodeFails(t, b)
	}
}

// A byte that is changed is told, or other labels are, but never the same ones.
func TestDecodeOfChangedBytes(t *testing.T) {
	for _, l := range [][]api.Label{nil, list("a", "1"), list("a", "1", "b", "22"), list("a", "xyz", "bb", "z", "c", "1"), list("_", "\x01\x00b\x01\x00", "z0", "\x00"), list(strings.Repeat("a", 17), strings.Repeat("\x01", 17))} {
		b := raw(l)
		for at := range b {
			for c := range 256 {
				x := slices.Clone(b)
				x[at] = byte(c)
				decodesAsTheChapter(t, x)
				decodesAsTheChapter(t, slices.Insert(slices.Clone(b), at, byte(c)))
				if got, n, errno := labels.Decode(x); byte(c) != b[at] && errno == api.OK && n == len(b) && slices.Equal(got, l) {
					t.Errorf("Decode(%s) does not tell the change at %d", bytesShown(x), at)
				}
			}
			decodesAsTheChapter(t, slices.Delete(slices.Clone(b), at, at+1))
		}
	}
}

// All short sequences of the bytes that an encoding is made of.
func TestDecodeOfAllShortBytes(t *testing.T) {
	var grow func(b []byte, left int)
	grow = func(b []byte, left int) {
		decodesAsTheChapter(t, b)
		if left == 0 || t.Failed() {
			return
		}
		for _, c := range []byte{0, 1, 2, 'a', 'b'} {
			grow(append(slices.Clone(b), c), left-1)
		}
	}
	grow(nil, 6)
	grow([]byte{1, 1, 0, 'a', 1, 0}, 3)
	grow([]byte{2, 1, 0, 'a', 1, 0, 'x', 1, 0}, 4)
}
