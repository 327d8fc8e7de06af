package press

import (
	"iter"

	"archivolt/api"
)

// unit is data of at most api.MaxUnit bytes.
type unit struct {
	data []byte
	// back is, for each position, the least offset at which its byte stands too, 0 if there is none.
	back [api.MaxUnit + 1]int
}

func unitOf(b []byte) *unit {
	u := &unit{data: b}
	var behind [256]int // the position behind the last one of each byte
	for p, x := range b {
		if behind[x] > 0 {
			u.back[p] = p - behind[x] + 1
		}
		behind[x] = p + 1
	}
	return u
}

// offsets yields the offsets at which a position has a match of at least 1, the least first.
func (u *unit) offsets(p int) iter.Seq[int] {
	return func(yield func(int) bool) {
		for q := p; u.back[q] > 0; {
			q -= u.back[q]
			if !yield(p - q) {
				return
			}
		}
	}
}

// most returns how many bytes a match at a position may have.
func (u *unit) most(p int) int {
	return min(reachAt(p), len(u.data)-p)
}

// longest returns the greatest match at a position, as far as it has at most some bytes, and the least offset that has it.
func (u *unit) longest(p, most int) (back, many int) {
search:
	for k := range u.offsets(p) {
		// A greater match has this byte too, and few offsets do.
		if u.data[p+many] != u.data[p+many-k] {
			continue
		}
		switch n := u.match(p, k, most); {
		case n == most:
			back, many = k, n
			break search
		case n > many:
			back, many = k, n
		}
	}
	return back, many
}

// match returns how many bytes, up to some, stand both at a position and an offset ahead of it.
func (u *unit) match(p, k, most int) int {
	n := 0
	for n < most && u.data[p+n] == u.data[p+n-k] {
		n++
	}
	return n
}

// Longest returns the greatest match at a position, and the least offset that has it.
func Longest(b []byte, p int) (back, many int, e api.Errno) {
	if len(b) > api.MaxUnit {
		return 0, 0, api.ErrLimit
	}
	if p < 0 || p > len(b) {
		return 0, 0, api.ErrRange
	}
	u := unitOf(b)
	back, many = u.longest(p, u.most(p))
	return back, many, api.OK
}
