package extent_test

import (
	"bytes"
	"slices"
	"testing"

	"barograph/api"
	"barograph/disk"
	"barograph/extent"
)

// agrees opens an image, and holds what is found against the description: the errors, the files and their contents, and what a commit makes of them. It tells the error of Open.
func agrees(t *testing.T, what string, image []byte) api.Errno {
	t.Helper()
	d, twin := loaded(t, image), loaded(t, image)
	s, e := extent.Open(d)
	p, want := plainOpen(twin)
	if e != want || (s == nil) != (e != api.OK) || d.Counts() != twin.Counts() {
		t.Fatalf("%s: Open: %v, %+v; want %v, %+v", what, e, d.Counts(), want, twin.Counts())
	}
	if e != api.OK {
		return e
	}
	w := &pair{t: t, d: d, s: s, p: p}
	w.same(what)
	for _, f := range p.files {
		got, e := s.Get(f.name)
		wanted, wantErr := p.get(f.name)
		w.answers(what+", Get("+f.name+")", got, e, wanted, wantErr)
		got, e = s.Sector(f.name, f.size-1)
		wanted, wantErr = p.sector(f.name, f.size-1)
		w.answers(what+", Sector("+f.name+")", got, e, wanted, wantErr)
	}
	w.is(what+", Put", s.Put("drawn", some(700)), p.put("drawn", some(700)))
	w.is(what+", Commit", s.Commit(), p.commit())
	w.same(what + ", Commit")
	return api.OK
}

// patch puts bytes into an image.
func patch(image []byte, at int, s string) { copy(image[at:], s) }

// sealed gives a slot its sum.
func sealed(image []byte, number int) {
	at := 256 * number
	patch(image, at+252, little(int(checksum(string(image[at:at+252]))), 4))
}

// spots are where the bytes of a slot's directory lie, as far as it has one.
func spots(image []byte, number int) []int {
	c := &cursor{rest: string(image[256*number+12 : 256*number+252])}
	length := int(c.number(4))
	c.number(4)
	home, _ := denoted(c.spans(), len(image)/256)
	var l []int
	for _, sector := range home {
		for i := range 256 {
			l = append(l, 256*sector+i)
		}
	}
	return l[:min(len(l), length)]
}

// summed gives a slot the sum of the directory that it has.
func summed(image []byte, number int) {
	var dir []byte
	for _, at := range spots(image, number) {
		dir = append(dir, image[at])
	}
	patch(image, 256*number+16, little(int(checksum(string(dir))), 4))
}

// disturb changes a slot, or its directory, or anything; mostly the sums are right behind it, so that more than they is looked at.
func disturb(x *dice, image []byte) {
	number := x.below(2)
	dir := spots(image, number)
	few := []byte{0, 1, 2, 3, 4, 8, 47, 48, 49, 'a', '.', 255}
	c := byte(x.below(256))
	if x.below(3) > 0 {
		c = few[x.below(len(few))]
	}
	switch kind := x.below(10); {
	case kind == 0:
		image[x.below(len(image))] = c
	case kind < 4:
		image[256*number+x.below(40)] = c
	case kind < 5:
		image[256*number+x.below(256)] ^= 1 << x.below(8)
	case len(dir) > 0 && kind < 9:
		image[dir[x.below(len(dir))]] = c
	case len(dir) > 0:
		patch(image, 256*number+12, little(len(dir)+x.below(5)-2, 4))
	}
	if x.below(8) > 0 {
		summed(image, number)
	}
	if x.below(8) > 0 {
		sealed(image, number)
	}
}

// drawnImage is what a store leaves on a disk behind some calls.
func drawnImage(t *testing.T, x *dice) []byte {
	t.Helper()
	w := newPair(t, x, 8+x.below(20))
	w.names, w.sizes = drawnNames, []int{0, 1, 256, 300, 513}
	for range 2 + x.below(4) {
		for range x.below(8) {
			w.change()
		}
		w.is("Commit", w.s.Commit(), w.p.commit())
	}
	return w.d.Image()
}

// tally counts what Open answers, so that a test knows that it has seen all of it.
type tally struct{ ok, none, form int }

func (n *tally) add(e api.Errno) {
	switch e {
	case api.OK:
		n.ok++
	case api.ErrExtentNone:
		n.none++
	case api.ErrExtentForm:
		n.form++
	}
}

func TestOpenOfChangedImages(t *testing.T) {
	x := dice(11)
	var n tally
	for range 300 {
		image := drawnImage(t, &x)
		n.add(agrees(t, "as it is", image))
		for range 20 {
			changed := slices.Clone(image)
			for range 1 + x.below(4) {
				disturb(&x, changed)
			}
			n.add(agrees(t, "changed", changed))
		}
		if x.below(2) == 0 { // with one slot alone, more is seen of it
			patch(image[256*x.below(2):], 0, zeros(256))
		}
		for range 20 {
			changed := slices.Clone(image)
			disturb(&x, changed)
			n.add(agrees(t, "one slot", changed))
		}
	}
	if n.ok < 1000 || n.none < 50 || n.form < 300 {
		t.Errorf("%+v", n)
	}
}

func TestOpenOfCutImages(t *testing.T) {
	x := dice(12)
	var n tally
	for range 60 {
		image := drawnImage(t, &x)
		for size := 256; size <= len(image); size += 256 {
			n.add(agrees(t, "cut", image[:size]))
			n.add(agrees(t, "its end", image[len(image)-size:]))
		}
		n.add(agrees(t, "longer", append(image, x.bytes(256*3)...)))
	}
	if n.ok < 100 || n.none < 100 || n.form < 20 {
		t.Errorf("%+v", n)
	}
}

// Bytes without a pattern, of which the slots are made more and more alike to good ones.
func TestOpenOfDrawnImages(t *testing.T) {
	x := dice(13)
	var n tally
	for range 6000 {
		image := x.bytes(256 * (1 + x.below(7)))
		if x.below(2) == 0 {
			image = bytes.Repeat([]byte{0}, len(image))
		}
		for number := range min(2, len(image)/256) {
			b := image[256*number:]
			if x.below(4) > 0 {
				patch(b, 0, "BGX1")
			}
			if x.below(4) > 0 {
				runs := []span{{x.below(5), 1 + x.below(2)}, {x.below(7), x.below(2)}}[:x.below(3)]
				patch(b, 12, little([]int{1, 2, 2, 2, 3, 15, 1 + x.below(300)}[x.below(7)], 4))
				patch(b, 20, spansOf(runs)+zeros(230-4*len(runs)))
			}
			summed(image, number)
			sealed(image, number)
		}
		n.add(agrees(t, "drawn", image))
	}
	if n.ok < 20 || n.none < 50 || n.form < 500 {
		t.Errorf("%+v", n)
	}
}

// Open leaves a disk as it is, though it be full of what looks like a store.
func TestOpenChangesNothing(t *testing.T) {
	x := dice(14)
	for range 50 {
		image := drawnImage(t, &x)
		for range 3 {
			disturb(&x, image)
		}
		d, e := disk.Load(image)
		must(t, e)
		extent.Open(d)
		if c := d.Counts(); c.Writes+c.Flushes > 0 || !bytes.Equal(d.Image(), image) {
			t.Errorf("%+v", c)
		}
	}
}
