package names

import (
	"slices"

	"archivolt/api"
)

const (
	anyUnits = '*'
	anyUnit  = '?'
)

// Match reports whether a pattern matches a name.
func Match(pattern, name string) (bool, api.Errno) {
	return call(func() bool {
		p := decoded(pattern)
		need(len(p) <= api.MaxPattern, api.ErrLimit)
		return matches(ups(p), ups(nameOf(name)))
	})
}

// matches reports whether a pattern matches a name, both in upper case.
func matches(pattern, name []uint16) bool {
	parts := split(pattern)
	first, last := parts[0], parts[len(parts)-1]
	if len(parts) == 1 {
		return len(name) == len(first) && fits(first, name)
	}
	if len(name) < len(first)+len(last) {
		return false
	}
	end := len(name) - len(last)
	return fits(first, name) && fits(last, name[end:]) && holds(parts[1:len(parts)-1], name[len(first):end])
}

// split returns the parts of a pattern that stand ahead of, between and behind its *, one if there is no *.
func split(pattern []uint16) [][]uint16 {
	var parts [][]uint16
	for {
		at := slices.Index(pattern, anyUnits)
		if at < 0 {
			return append(parts, pattern)
		}
		parts = append(parts, pattern[:at])
		pattern = pattern[at+1:]
	}
}

// holds reports whether there are parts in a name, one behind the other. Each is taken where it is first, which leaves most for the others.
func holds(parts [][]uint16, name []uint16) bool {
next:
	for _, part := range parts {
		for at := range len(name) - len(part) + 1 {
			if fits(part, name[at:]) {
				name = name[at+len(part):]
				continue next
			}
		}
		return false
	}
	return true
}

// fits reports whether a name, which is no shorter, begins as a part says, which has no *.
func fits(part, name []uint16) bool {
	for i, u := range part {
		if u != anyUnit && u != name[i] {
			return false
		}
	}
	return true
}
