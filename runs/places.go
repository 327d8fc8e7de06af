package runs

import (
	"cmp"
	"slices"

	"archivolt/api"
)

// byPlace returns the runs that are no holes, in the order in which they lie on the volume.
func byPlace(l []api.Run) []api.Run {
	l = placed(l)
	slices.SortFunc(l, func(x, y api.Run) int { return cmp.Compare(x.To, y.To) })
	return l
}

// Twice returns the least page of the volume at which two pages of a stream lie.
func Twice(l []api.Run) (to int, is bool, e api.Errno) {
	return call(func() (int, bool) {
		needValid(l)
		end := 0
		for _, r := range byPlace(l) {
			if r.To < end {
				return r.To, true
			}
			end = r.To + r.Many
		}
		return 0, false
	})
}

// Shared returns the least page of the volume at which pages of two streams lie.
func Shared(a, b []api.Run) (to int, is bool, e api.Errno) {
	return call(func() (int, bool) {
		needValid(a, b)
		return firstShared(byPlace(a), byPlace(b))
	})
}

// firstShared is Shared of runs by their places: it goes through both lists in this order, so that what it finds first is the least.
func firstShared(a, b []api.Run) (to int, is bool) {
next:
	for _, r := range a {
		for len(b) > 0 {
			other := b[0]
			switch {
			case other.To+other.Many <= r.To:
				b = b[1:]
			case r.To+r.Many <= other.To:
				continue next
			default:
				return max(r.To, other.To), true
			}
		}
	}
	return 0, false
}
