package disk_test

import (
	"bytes"
	"slices"
	"testing"

	"barograph/api"
	"barograph/disk"
)

// plain is the chapter's description, word for word: it keeps all that was ever written, and looks through it.
type plain struct {
	durable map[int]string
	sectors int
	cache   []written
	dark    bool
	hasTrip bool
	trip    int
	counts  api.Counts
}

type written struct {
	at   int
	data string
}

func newPlain(image []byte) *plain {
	p := &plain{durable: map[int]string{}, sectors: len(image) / 256}
	for i := range p.sectors {
		p.durable[i] = string(image[256*i : 256*i+256])
	}
	return p
}

// first is what each operation does first: it tells whether it is performed.
func (p *plain) first() bool {
	if p.dark {
		return false
	}
	if p.hasTrip && p.trip == 0 {
		p.dark, p.hasTrip = true, false
		return false
	}
	if p.hasTrip {
		p.trip--
	}
	return true
}

func (p *plain) read(at int) (string, api.Errno) {
	if !p.first() {
		return "", api.ErrDark
	}
	p.counts.Reads++
	if at < 0 || at >= p.sectors {
		return "", api.ErrRange
	}
	for _, w := range slices.Backward(p.cache) {
		if w.at == at {
			return w.data, api.OK
		}
	}
	return p.durable[at], api.OK
}

func (p *plain) write(at int, b []byte) api.Errno {
	if !p.first() {
		return api.ErrDark
	}
	p.counts.Writes++
	if at < 0 || at >= p.sectors {
		return api.ErrRange
	}
	if len(b) != 256 {
		return api.ErrLength
	}
	p.cache = append(p.cache, written{at, string(b)})
	return api.OK
}

func (p *plain) flush() api.Errno {
	if !p.first() {
		return api.ErrDark
	}
	p.counts.Flushes++
	for _, w := range p.cache {
		p.durable[w.at] = w.data
	}
	p.cache = nil
	return api.OK
}

func (p *plain) setTrip(n int) api.Errno {
	if n < 0 {
		return api.ErrArg
	}
	if p.dark {
		return api.ErrDark
	}
	p.hasTrip, p.trip = true, n
	return api.OK
}

func (p *plain) cut(keep []bool) {
	for i, w := range p.cache {
		if i < len(keep) && keep[i] {
			p.durable[w.at] = w.data
		}
	}
	p.cache, p.dark, p.hasTrip = nil, false, false
}

func (p *plain) pending() []int {
	var sectors []int
	for _, w := range p.cache {
		sectors = append(sectors, w.at)
	}
	return sectors
}

func (p *plain) image() []byte {
	var b []byte
	for i := range p.sectors {
		b = append(b, p.durable[i]...)
	}
	return b
}

// same holds all that can be asked of a disk without an operation against the description.
func same(t *testing.T, d *disk.Disk, p *plain) {
	t.Helper()
	if d.Sectors() != p.sectors || d.Dark() != p.dark || d.Counts() != p.counts {
		t.Fatalf("%d sectors, dark %v, %+v; want %d, %v, %+v", d.Sectors(), d.Dark(), d.Counts(), p.sectors, p.dark, p.counts)
	}
	if got, want := d.Pending(), p.pending(); !slices.Equal(got, want) {
		t.Fatalf("Pending %v, want %v", got, want)
	}
	if !bytes.Equal(d.Image(), p.image()) {
		t.Fatal("Image is another one")
	}
}

// dice are numbers without a pattern, the same ones at every run.
type dice uint64

func (d *dice) below(n int) int {
	*d = *d*6364136223846793005 + 1442695040888963407
	return int(uint64(*d) >> 33 % uint64(n))
}

func (d *dice) bytes(n int) []byte {
	b := make([]byte, n)
	for i := range b {
		b[i] = byte(d.below(256))
	}
	return b
}

func (d *dice) bools(n int) []bool {
	b := make([]bool, n)
	for i := range b {
		b[i] = d.below(2) == 1
	}
	return b
}

// data is the length of a sector, but for a few.
func (d *dice) data() []byte {
	n := 256
	if d.below(8) == 0 {
		n = []int{0, 1, 255, 257, 512}[d.below(5)]
	}
	return bytes.Repeat(d.bytes(1), n)
}

// drawn does one call of both, and holds what they answer against each other.
func drawn(t *testing.T, x *dice, d *disk.Disk, p *plain) {
	t.Helper()
	at := x.below(p.sectors+2) - 1
	switch kind := x.below(20); {
	case kind < 6:
		b, e := d.Read(at)
		want, wantErr := p.read(at)
		if string(b) != want || e != wantErr {
			t.Fatalf("Read(%d): %.4x.., %v; want %.4x.., %v", at, b, e, want, wantErr)
		}
		for i := range b { // what was read is the reader's own
			b[i] ^= 0xff
		}
	case kind < 14:
		b := x.data()
		if e, want := d.Write(at, b), p.write(at, b); e != want {
			t.Fatalf("Write(%d, %d bytes): %v, want %v", at, len(b), e, want)
		}
		for i := range b { // what was handed in is the writer's again
			b[i] ^= 0xff
		}
	case kind < 15:
		if e, want := d.Flush(), p.flush(); e != want {
			t.Fatalf("Flush: %v, want %v", e, want)
		}
	case kind < 17:
		n := x.below(12) - 2
		if e, want := d.Trip(n), p.setTrip(n); e != want {
			t.Fatalf("Trip(%d): %v, want %v", n, e, want)
		}
	case kind < 18:
		keep := x.bools(x.below(len(p.cache) + 3))
		d.Cut(keep...)
		p.cut(keep)
	}
	same(t, d, p)
}

// Any calls, one after another, answer what the chapter says.
func TestDrawnCalls(t *testing.T) {
	x := dice(1)
	for range 200 {
		image := x.bytes(256 * (1 + x.below(5)))
		d, e := disk.Load(image)
		if e != api.OK {
			t.Fatal(e)
		}
		p := newPlain(image)
		for range 200 {
			drawn(t, &x, d, p)
		}
	}
}

// Few cuts and flushes let the cache grow, and a sector be written again and again.
func TestDrawnCallsOfALongCache(t *testing.T) {
	x := dice(2)
	d, p := fresh(t, 40), newPlain(make([]byte, 256*40))
	for range 3000 {
		at := x.below(40)
		if x.below(3) == 0 {
			b, e := d.Read(at)
			if want, _ := p.read(at); string(b) != want || e != api.OK {
				t.Fatalf("Read(%d): %.4x.., %v; want %.4x..", at, b, e, want)
			}
			continue
		}
		b := bytes.Repeat(x.bytes(4), 64)
		if e, want := d.Write(at, b), p.write(at, b); e != want {
			t.Fatal(e)
		}
	}
	same(t, d, p)
	keep := x.bools(len(p.cache) - 100)
	d.Cut(keep...)
	p.cut(keep)
	same(t, d, p)
	for at := range 40 {
		b, e := d.Read(at)
		if want, _ := p.read(at); string(b) != want || e != api.OK {
			t.Fatalf("Read(%d) behind the cut: %.4x.., %v; want %.4x..", at, b, e, want)
		}
	}
}
