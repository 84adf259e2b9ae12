package index

import (
	"math"

	"barograph/api"
	"barograph/labels"
)

// areValid tells whether there is an index of these entries.
func areValid(l []api.Entry) bool {
	if len(l) > api.MaxSeries {
		return false
	}
	for n, e := range l {
		if labels.Check(e.Labels) != api.OK || !placesAreValid(e.Chunks) {
			return false
		}
		if n > 0 && labels.Cmp(l[n-1].Labels, e.Labels) >= 0 {
			return false
		}
	}
	return true
}

// placesAreValid tells whether an entry may have these chunks.
func placesAreValid(l []api.Place) bool {
	for i, p := range l {
		if !isValid(p) || i > 0 && p.From <= l[i-1].To {
			return false
		}
	}
	return true
}

func isValid(p api.Place) bool {
	return p.From <= p.To && isTime(p.From) && isTime(p.To) && 1 <= p.N && p.N <= api.ChunkSize && isOffset(p.At) && isOffset(p.Size)
}

func isTime(t int64) bool { return -api.MaxTime <= t && t <= api.MaxTime }

func isOffset(n int) bool { return 0 <= n && n <= math.MaxInt32 }
