package names

import (
	"slices"
	"strings"

	"archivolt/api"
)

// text is a string with what it is ordered by, which is nothing but itself if it is not well-formed.
type text struct {
	s            string
	well         bool
	units, upper []uint16
}

func textOf(s string) text {
	l, e := Units(s)
	return text{s, e == api.OK, l, ups(l)}
}

func compare(a, b text) int {
	switch {
	case a.well && !b.well:
		return -1
	case b.well && !a.well:
		return 1
	case !a.well:
		return strings.Compare(a.s, b.s)
	}
	if n := slices.Compare(a.upper, b.upper); n != 0 {
		return n
	}
	return slices.Compare(a.units, b.units)
}

// Compare returns -1, 0 or 1, if a is less than b, equal, or greater.
func Compare(a, b string) int { return compare(textOf(a), textOf(b)) }

// Same reports whether two strings are alike: equal, or both well-formed with the same upper case.
func Same(a, b string) bool {
	if a == b {
		return true
	}
	x, y := textOf(a), textOf(b)
	return x.well && y.well && slices.Equal(x.upper, y.upper)
}

// Sort returns strings in order.
func Sort(l []string) []string {
	texts := make([]text, len(l))
	for i, s := range l {
		texts[i] = textOf(s)
	}
	slices.SortFunc(texts, compare)
	sorted := make([]string, len(l))
	for i, t := range texts {
		sorted[i] = t.s
	}
	return sorted
}

// Key returns bytes for a name that are in the order of bytes just as names are.
func Key(s string) ([]byte, api.Errno) {
	return call(func() []byte {
		l := nameOf(s)
		b := make([]byte, 0, 4*len(l)+2)
		// No unit of a name is 0, so that a name that goes on is greater.
		for _, u := range slices.Concat(ups(l), []uint16{0}, l) {
			b = append(b, byte(u>>8), byte(u))
		}
		return b
	})
}
