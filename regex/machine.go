package regex

// A repetition of a count without a bound takes a byte, if it is not the first one of a `+`. So, where no byte has been taken since such a body began, its end leads nowhere, and an instruction is followed in one of these ways. They tell of the innermost body around it only: no other one can be left before that one is.
const (
	free   int = iota // a byte has been taken in it, or there is no such body
	inside            // none has been taken in it
	ahead             // the same, and what is less preferred than to come to its end is not wanted
	ways
)

// machine goes through a program and a text at once.
type machine struct {
	program   program
	text      string
	at        int // bytes taken
	now, next []thread
	seen      [ways][]int // of each instruction: 1 more than the place where it was last followed in that way
	keeps     bool        // the records
	fits      bool
	path      *record // of the preferred match
}

// thread is a state: an instruction that wants a byte, and what was met on the way there.
type thread struct {
	step int
	path *record
}

func newMachine(p program, text string) *machine {
	m := &machine{program: p, text: text}
	for way := range m.seen {
		m.seen[way] = make([]int, len(p))
	}
	return m
}

// run tells whether the whole text fits. A list has the states of a place in the order in which what has led there is preferred. What a state leads to does not hang on that: so of those that lead to one and the same, the first has it.
func (m *machine) run() bool {
	m.follow(0, free, nil)
text:
	for m.at < len(m.text) {
		m.now, m.next = m.next, m.now[:0]
		c := m.text[m.at]
		m.at++
		for _, x := range m.now {
			in := &m.program[x.step]
			if in.bytes.has(c) {
				m.follow(in.next, free, x.path)
			}
			if m.fits {
				break text
			}
		}
		if len(m.next) == 0 {
			break
		}
	}
	return m.fits
}

// follow lists the states to which an instruction leads without a byte, the preferred ones first. In the way ahead it tells whether it has come to the end of the body, and lists nothing behind that.
func (m *machine) follow(step, way int, path *record) bool {
	for m.isNew(step, way) {
		in := &m.program[step]
		switch in.kind {
		case fit:
			m.next = append(m.next, thread{step, path})
			return false
		case fitted:
			if m.at == len(m.text) {
				m.fits, m.path = true, path
			}
			return false
		case choice:
			if m.follow(in.next, way, path) {
				return true
			}
			step = in.other
		case edge:
			if in.edge&m.edges() == 0 {
				return false
			}
			step = in.next
		case save:
			path = m.note(record{slot: in.slot, at: m.at, before: path})
			fallthrough
		case jump:
			step = in.next
		case first:
			return m.begin(in, way, path)
		case again:
			if way != free {
				return way == ahead
			}
			fallthrough
		case loop:
			return m.repeat(in, way, path)
		}
	}
	return false
}

// isNew tells whether an instruction is followed in this way for the first time at this place, and takes that down.
func (m *machine) isNew(step, way int) bool {
	if m.seen[way][step] == m.at+1 {
		return false
	}
	m.seen[way][step] = m.at + 1
	return true
}

// edges are those of the text at this place.
func (m *machine) edges() uint8 {
	var edges uint8
	if m.at == 0 {
		edges |= start
	}
	if m.at == len(m.text) {
		edges |= end
	}
	return edges
}

// repeat follows a body once more, and what is behind it, the preferred one first.
func (m *machine) repeat(in *instruction, way int, path *record) bool {
	if in.lazy && m.follow(in.next, way, path) {
		return true
	}
	m.follow(in.other, inside, path)
	return !in.lazy && m.follow(in.next, way, path)
}

// begin follows the body of a `+` for its first repetition, which may be empty. What is less preferred in the body than that is reached by another repetition behind the empty one, for this is preferred to reaching it by the first: so the groups of the empty one are told ahead of it.
func (m *machine) begin(in *instruction, way int, path *record) bool {
	empty := &in.empty[m.edges()]
	if !empty.fits {
		return m.follow(in.other, inside, path)
	}
	m.follow(in.other, ahead, path)
	if len(empty.groups) > 0 {
		path = m.note(record{empty: empty, at: m.at, before: path})
	}
	return m.repeat(in, way, path)
}
