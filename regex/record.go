package regex

// record is what a thread has met at a place, and, by the records before it, all that it has met. Threads share the records of the way that they have in common, so that a new one takes no longer the more groups there are.
type record struct {
	slot   int        // of a group, which begins or ends there
	empty  *emptiness // instead of a slot: groups that begin and end there
	at     int
	before *record
}

// note keeps a record, if they are kept.
func (m *machine) note(x record) *record {
	if !m.keeps {
		return nil
	}
	// A copy, so that one which is not kept takes no memory.
	kept := x
	return &kept
}

// parts are the whole text and what the groups have of it, by the last records of each.
func (r *record) parts(text string, groups int) []string {
	const unknown = -1
	slots := make([]int, opening(groups+1))
	for i := range slots {
		slots[i] = unknown
	}
	tell := func(slot, at int) {
		if slots[slot] == unknown {
			slots[slot] = at
		}
	}
	for ; r != nil; r = r.before {
		if r.empty == nil {
			tell(r.slot, r.at)
			continue
		}
		for _, number := range r.empty.groups {
			tell(opening(number), r.at)
			tell(closing(number), r.at)
		}
	}
	parts := make([]string, groups+1)
	parts[0] = text
	for i := 1; i <= groups; i++ {
		if from := slots[opening(i)]; from != unknown {
			parts[i] = text[from:slots[closing(i)]]
		}
	}
	return parts
}
