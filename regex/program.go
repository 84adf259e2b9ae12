package regex

// Kinds of instructions.
const (
	fit    uint8 = iota // takes a byte of a set
	fitted              // the end of the program
	edge                // goes on at an edge of the text only
	save                // notes where a group begins, or ends
	jump                // goes on elsewhere
	choice              // goes on at one of two
	first               // ahead of the body of a `+`
	loop                // ahead of the body of another count that has no bound
	again               // behind such a body
)

// program is a pattern as the machine goes through it.
type program []instruction

// instruction is a step of a program.
type instruction struct {
	kind  uint8
	bytes set
	edge  uint8
	slot  int
	lazy  bool
	next  int // where it goes on; of a choice: what is preferred; of first, loop and again: behind the body
	other int // of a choice: what is not preferred; of first, loop and again: the body
	empty *[places]emptiness
}

// build makes the program of a whole pattern.
func build(whole *node) program {
	var p program
	p.add(whole)
	p.emit(instruction{kind: fitted})
	return p
}

// emit appends an instruction that goes on behind itself, and tells where it is.
func (p *program) emit(x instruction) int {
	at := len(*p)
	x.next = at + 1
	*p = append(*p, x)
	return at
}

// add appends what a node is.
func (p *program) add(t *node) {
	switch t.kind {
	case aByte:
		p.emit(instruction{kind: fit, bytes: t.bytes})
	case anEdge:
		p.emit(instruction{kind: edge, edge: t.edge})
	case branches:
		p.addBranches(t.kids)
	case count:
		p.addCount(t)
	case group:
		p.emit(instruction{kind: save, slot: opening(t.number)})
		p.add(t.kids[0])
		p.emit(instruction{kind: save, slot: closing(t.number)})
	case sequence:
		for _, kid := range t.kids {
			p.add(kid)
		}
	}
}

// opening and closing are the slots of a group.
func opening(number int) int { return 2 * number }

func closing(number int) int { return 2*number + 1 }

// addBranches appends the branches, each of which but the last one goes on behind them all.
func (p *program) addBranches(kids []*node) {
	var ends []int
	for _, kid := range kids[:len(kids)-1] {
		at := p.emit(instruction{kind: choice})
		p.add(kid)
		ends = append(ends, p.emit(instruction{kind: jump}))
		(*p)[at].other = len(*p)
	}
	p.add(kids[len(kids)-1])
	for _, at := range ends {
		(*p)[at].next = len(*p)
	}
}

// addCount appends a node as often as it is counted.
func (p *program) addCount(t *node) {
	kid := t.kids[0]
	if t.plus {
		p.addLoop(first, t)
		return
	}
	// What has no states is nothing in the program: counts of counts of it would take forever to append.
	if kid.states > 0 {
		for range t.least {
			p.add(kid)
		}
	}
	if t.most == endless {
		p.addLoop(loop, t)
		return
	}
	p.addOptional(kid, t.most-t.least, t.lazy)
}

// addLoop appends a body that is gone through again and again.
func (p *program) addLoop(kind uint8, t *node) {
	at := p.emit(instruction{kind: kind, lazy: t.lazy, empty: t.empty})
	p.add(t.kids[0])
	back := p.emit(instruction{kind: again, lazy: t.lazy})
	for _, i := range []int{at, back} {
		(*p)[i].next, (*p)[i].other = back+1, at+1
	}
}

// addOptional appends a node so many times, of which each may be the first that is left out.
func (p *program) addOptional(kid *node, most int, lazy bool) {
	var choices []int
	for range most {
		choices = append(choices, p.emit(instruction{kind: choice}))
		p.add(kid)
	}
	for _, at := range choices {
		x := &(*p)[at]
		x.other = len(*p)
		if lazy {
			x.next, x.other = x.other, x.next
		}
	}
}
