package index

import (
	"barograph/api"
	"barograph/crc"
)

// An index begins with magic, and ends with the sum of all bytes ahead of it.
const (
	magic   = "BGIX"
	sumSize = 4
)

// written is what is written so far.
type written []byte

// number writes one in so many bytes, the lowest first.
func (w *written) number(bytes int, v int64) {
	for range bytes {
		*w = append(*w, byte(v))
		v >>= 8
	}
}

// four writes a number in four bytes, as most are.
func (w *written) four(v int) { w.number(4, int64(v)) }

// symbol writes one, behind its length.
func (w *written) symbol(s string) {
	w.number(2, int64(len(s)))
	*w = append(*w, s...)
}

// sections writes those of an index, each behind what is written.
type sections struct {
	written
	numbers map[string]int // of the symbols
}

// encode is the index as bytes.
func (x *Index) encode() []byte {
	s := sections{written(magic), map[string]int{}}
	s.symbols(x.symbols)
	s.entries(x.entries)
	s.postings(x.postings)
	s.number(sumSize, int64(crc.Sum(s.written)))
	return s.written
}

func (s *sections) symbols(l []string) {
	s.four(len(l))
	for n, symbol := range l {
		s.symbol(symbol)
		s.numbers[symbol] = n
	}
}

func (s *sections) entries(l []api.Entry) {
	s.four(len(l))
	for _, e := range l {
		s.number(1, int64(len(e.Labels)))
		for _, label := range e.Labels {
			s.label(label)
		}
		s.four(len(e.Chunks))
		for _, p := range e.Chunks {
			s.place(p)
		}
	}
}

func (s *sections) label(x api.Label) {
	s.four(s.numbers[x.Name])
	s.four(s.numbers[x.Value])
}

func (s *sections) place(p api.Place) {
	s.number(8, p.From)
	s.number(8, p.To)
	s.number(2, int64(p.N))
	s.four(p.At)
	s.four(p.Size)
}

func (s *sections) postings(l []posting) {
	s.four(len(l))
	for _, p := range l {
		s.label(p.label)
		s.four(len(p.entries))
		for _, n := range p.entries {
			s.four(n)
		}
	}
}
