package gorilla_test

import (
	"bytes"
	"slices"
	"sync"
	"testing"

	"barograph/api"
	"barograph/gorilla"
)

func overwrite(b []byte) {
	b = b[:cap(b)]
	for i := range b {
		b[i] = 0xee
	}
}

// roomy is a copy of bytes with others behind its end, in the same memory.
func roomy(b []byte) []byte { return append(slices.Clone(b), "behind"...)[:len(b)] }

func hasStayed(b, want []byte) bool {
	return bytes.Equal(b, want) && string(b[:len(b)+6][len(b):]) == "behind"
}

// What Chunk answers is its owner's: neither the appender nor another answer hangs on it.
func TestChunksAreTheirOwners(t *testing.T) {
	l := full()
	for _, n := range []int{0, 1, 2, 3, 50, 119} {
		a := appended(t, l[:n])
		one, other := a.Chunk(), a.Chunk()
		overwrite(other.Data)
		holds(t, a, l[:n])
		if !same(one, chunkOf(l[:n])) {
			t.Errorf("two chunks of %d samples share memory", n)
		}
		if errno := a.Append(l[n]); errno != api.OK {
			t.Error(errno)
		}
		if !same(one, chunkOf(l[:n])) {
			t.Errorf("the chunk of %d samples has changed with the next one", n)
		}
		behind := append(one.Data, "behind"...)
		holds(t, a, l[:n+1])
		for _, s := range l[n+1:] {
			a.Append(s)
		}
		if !bytes.Equal(behind, append(slices.Clone(chunkOf(l[:n]).Data), "behind"...)) {
			t.Errorf("what was appended to the chunk of %d samples has changed with the next ones", n)
		}
		holds(t, a, l)
	}
}

// A chunk that is handed in stays as it is, and what lies behind its data is neither changed nor read.
func TestChunksThatAreHandedInStay(t *testing.T) {
	for _, l := range listed() {
		want := chunkOf(l)
		c := want
		c.Data = roomy(want.Data)
		chunks := []api.Chunk{c, {N: 7, Data: []byte("behind")}}[:1]
		isChunk(t, c, l)
		decodes(t, chunks, l)
		if !hasStayed(c.Data, want.Data) || !same(chunks[0], c) || !same(chunks[:2][1], api.Chunk{N: 7, Data: []byte("behind")}) {
			t.Errorf("%+v has become %+v", want, c)
		}
		c.Data = c.Data[:len(c.Data)-1]
		isNone(t, c)
		// A chunk that is cut short isn't made whole by what lies behind.
		c = want
		c.Data = append(slices.Clone(want.Data[:len(want.Data)-1]), want.Data[len(want.Data)-1:]...)[:len(want.Data)-1]
		isNone(t, c)
	}
}

// What All yields is what the chunk was when it was handed in.
func TestAllKeepsNothingOfTheCallers(t *testing.T) {
	for _, l := range listed() {
		c := chunkOf(l)
		c.Data = roomy(c.Data)
		all := gorilla.All(c)
		overwrite(c.Data)
		if got := slices.Collect(all); !slices.Equal(got, l) {
			t.Errorf("after the bytes have been overwritten: %v, not %v", got, l)
		}
		// The same while the loop runs.
		c = chunkOf(l)
		var got []api.Sample
		for s := range gorilla.All(c) {
			overwrite(c.Data)
			got = append(got, s)
		}
		if !slices.Equal(got, l) {
			t.Errorf("while the bytes were overwritten: %v, not %v", got, l)
		}
	}
	// And what was none doesn't become one.
	c := chunkOf(at(0, 10, 20))
	right := slices.Clone(c.Data)
	c.Data[10] = 1
	all := gorilla.All(c)
	copy(c.Data, right)
	if got := slices.Collect(all); len(got) != 0 {
		t.Errorf("%v", got)
	}
}

// Samples that are handed in stay as they are, and those behind the end are neither changed nor read.
func TestSamplesThatAreHandedInStay(t *testing.T) {
	for _, n := range []int{0, 1, 119, 120, 121, 300} {
		for _, behind := range [][]api.Sample{at(1 << 50), at(first), at(final + 1)} {
			all := append(many(n), behind...)
			l := all[:n]
			chunks, errno := gorilla.Encode(l)
			if want, _ := encodeOf(many(n)); errno != api.OK || !slices.EqualFunc(chunks, want, same) {
				t.Errorf("Encode of %d samples: %+v, %v", n, chunks, errno)
			}
			if !slices.Equal(all, append(many(n), behind...)) {
				t.Errorf("Encode has changed %d samples", n)
			}
			for i := range all {
				all[i] = sample(77, 77)
			}
			if want, _ := encodeOf(many(n)); !slices.EqualFunc(chunks, want, same) {
				t.Errorf("the chunks of %d samples hang on them", n)
			}
		}
	}
	wrong := at(0, 5, 5, final+1)
	gorilla.Encode(wrong)
	if !slices.Equal(wrong, at(0, 5, 5, final+1)) {
		t.Error("Encode has changed samples that it refuses")
	}
}

// What Encode answers is its owner's, each chunk apart from the others.
func TestChunksOfEncodeAreTheirOwners(t *testing.T) {
	l := many(300)
	want, _ := encodeOf(l)
	for i := range want {
		chunks, _ := gorilla.Encode(l)
		other, _ := gorilla.Encode(l)
		overwrite(chunks[i].Data)
		chunks[i].Data = append(chunks[i].Data, "behind"...)
		for j := range want {
			if j != i && !same(chunks[j], want[j]) || !same(other[j], want[j]) {
				t.Errorf("chunks %d and %d share memory", i, j)
			}
		}
		one := append(chunks[:i], api.Chunk{N: 7})
		if !same(other[i], want[i]) || one[i].N != 7 {
			t.Error("two lists of chunks share memory")
		}
	}
	encodes(t, l)
}

// What Decode answers is its owner's.
func TestSamplesOfDecodeAreTheirOwners(t *testing.T) {
	for _, n := range []int{1, 2, 120, 300} {
		l := many(n)
		chunks, _ := encodeOf(l)
		one, _ := gorilla.Decode(chunks)
		other, _ := gorilla.Decode(chunks)
		for i := range other[:cap(other)] {
			other[:cap(other)][i] = sample(77, 77)
		}
		for _, c := range chunks {
			overwrite(c.Data)
		}
		if !slices.Equal(one, l) {
			t.Errorf("what Decode answers of %d samples shares memory", n)
		}
		if a, b := append(one, sample(1, 1)), append(other, sample(2, 2)); a[n].T != 1 || b[n].T != 2 {
			t.Errorf("what is appended to two answers of %d samples shares memory", n)
		}
	}
}

// Nothing is kept: what a call says hangs on what it is given alone, whatever other calls are made at the same time.
func TestCallsAtTheSameTime(t *testing.T) {
	var wait sync.WaitGroup
	shared := chunkOf(many(90))
	all := gorilla.All(shared)
	for i := range 8 {
		wait.Go(func() {
			l := many(100 + 30*i)
			want, _ := encodeOf(l)
			for range 30 {
				chunks, errno := gorilla.Encode(l)
				if errno != api.OK || !slices.EqualFunc(chunks, want, same) {
					t.Errorf("Encode of %d samples: %v", len(l), errno)
				}
				if got, errno := gorilla.Decode(chunks); errno != api.OK || !slices.Equal(got, l) {
					t.Errorf("Decode of %d samples: %v", len(l), errno)
				}
				if gorilla.Check(shared) != api.OK || !slices.Equal(slices.Collect(all), many(90)) {
					t.Error("a chunk that all have")
				}
			}
		})
	}
	wait.Wait()
}
