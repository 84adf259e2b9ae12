package regex

import "barograph/api"

// Kinds of nodes.
const (
	aByte    uint8 = iota // one of a set
	anEdge                // of the text
	sequence              // kids, one behind another
	branches              // kids, one of them
	group                 // a kid, whose part of the text is kept
	count                 // a kid, several times
)

// The edges of a text. A place in it is at none of them, at one or, if the text is empty, at both.
const (
	start uint8 = 1
	end   uint8 = 2

	places = 4 // kinds of places, by their edges
)

// endless is the bound of a count that has none.
const endless = -1

// node is a part of a pattern.
type node struct {
	kind   uint8
	bytes  set
	edge   uint8
	number int                // of a group
	times                     // of a count
	empty  *[places]emptiness // of a `+`: how its kid fits the empty text
	kids   []*node
	states int // at most one more than a pattern may have
}

// times is what a count tells.
type times struct {
	least, most int
	plus        bool // it is written `+`: `{1,}` means the same, but has more states
	lazy        bool
}

// newNode makes a node of one that lacks the number of its states.
func newNode(t node) *node {
	// One state too many says enough: so no product of counts gets out of hand, and one with a count of 0 still has none.
	t.states = min(t.countStates(), api.MaxStates+1)
	return &t
}

// countStates works out the number of states by those of the kids.
func (t *node) countStates() int {
	n := 0
	switch t.kind {
	case aByte, anEdge:
		return 1
	case count:
		return t.times.statesOf(t.kids[0].states)
	case branches:
		n = 2 * (len(t.kids) - 1)
	case group:
		n = 2
	}
	for _, kid := range t.kids {
		n += kid.states
	}
	return n
}

// statesOf is how many states a kid that has x of them has with this count.
func (t times) statesOf(x int) int {
	switch {
	case t.plus:
		return x + 1
	case t.most == endless:
		return t.least*x + x + 2
	}
	return t.least*x + (t.most-t.least)*(x+1)
}

// emptiness is how a part of a pattern fits the empty text, in the way that is preferred.
type emptiness struct {
	fits   bool
	groups []int // that have taken part then
}

// emptinessOf is that of a part, at each kind of place.
func emptinessOf(t *node) *[places]emptiness {
	var x [places]emptiness
	for edges := range x {
		x[edges] = t.emptyAt(uint8(edges))
	}
	return &x
}

// emptyAt is that of a part, at a place with these edges.
func (t *node) emptyAt(edges uint8) emptiness {
	x := emptiness{fits: true}
	switch t.kind {
	case aByte:
		return emptiness{}
	case anEdge:
		return emptiness{fits: t.edge&edges != 0}
	case branches:
		return t.emptyBranch(edges)
	case count:
		return t.emptyTimes(edges)
	case group:
		x.groups = []int{t.number}
		fallthrough
	case sequence:
		for _, kid := range t.kids {
			y := kid.emptyAt(edges)
			if !y.fits {
				return emptiness{}
			}
			x.groups = append(x.groups, y.groups...)
		}
	}
	return x
}

// emptyBranch is that of the first branch that fits.
func (t *node) emptyBranch(edges uint8) emptiness {
	for _, kid := range t.kids {
		if x := kid.emptyAt(edges); x.fits {
			return x
		}
	}
	return emptiness{}
}

// emptyTimes is that of a count. Where no repetition has to be there, an empty one is preferred to none only if the count has a bound.
func (t *node) emptyTimes(edges uint8) emptiness {
	x := t.kids[0].emptyAt(edges)
	if t.least > 0 || x.fits && t.most > 0 && !t.lazy {
		return x
	}
	return emptiness{fits: true}
}
