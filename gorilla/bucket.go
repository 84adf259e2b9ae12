package gorilla

// bucket is a row of the table of times: which steps it has, and how they are written. A step is by how much a gap differs from the one before.
type bucket struct {
	mark     uint64 // the bits that tell the row
	markSize int
	plus     uint64 // is added to a step ahead of writing it
	size     int    // how many bits that then takes
}

// has tells whether the row has a step: whether there is room for it.
func (b bucket) has(step uint64) bool { return (step+b.plus)>>b.size == 0 }

// firstBucket is the first one that is wanted: the table has one for every step, and for every mark.
func firstBucket(wanted func(bucket) bool) bucket {
	table := [...]bucket{
		{0b0, 1, 0, 0},
		{0b10, 2, 63, 7},
		{0b110, 3, 255, 9},
		{0b1110, 4, 2047, 12},
		{0b1111, 4, 0, 64},
	}
	var found bucket
buckets:
	for _, found = range table {
		if wanted(found) {
			break buckets
		}
	}
	return found
}
