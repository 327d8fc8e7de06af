package names

import (
	"iter"
	"slices"
	"strconv"
	"strings"

	"archivolt/api"
)

const (
	inShort  = "ABCDEFGHIJKLMNOPQRSTUVWXYZ0123456789!#$%&'()-@^_{}~"
	other    = '_' // stands for a unit that is in no short name
	maxBase  = 8   // characters
	maxEnd   = 3
	maxTries = 9999
)

// shortSet returns the characters of short names.
func shortSet() map[rune]bool {
	set := make(map[rune]bool, len(inShort))
	for _, c := range inShort {
		set[c] = true
	}
	return set
}

// IsShort reports whether a string is a short name.
func IsShort(s string) bool {
	base, end, dotted := strings.Cut(s, string(dot))
	if len(base) < 1 || len(base) > maxBase || dotted && len(end) < 1 || len(end) > maxEnd {
		return false
	}
	set := shortSet()
	return !strings.ContainsFunc(base+end, func(c rune) bool { return !set[c] })
}

// characters returns those of units for short names.
func characters(l []uint16) string {
	set := shortSet()
	var b []byte
	for _, u := range ups(l) {
		switch {
		case u == blank || u == dot:
		case set[rune(u)]:
			b = append(b, byte(u))
		default:
			b = append(b, other)
		}
	}
	return string(b)
}

// divided returns what the base and the extension of short names for a name begin with.
func divided(l []uint16) (base, end string) {
	at := len(l)
	if last := lastDot(l); last > 0 { // a dot that is the first unit divides nothing
		at = last
		end = characters(l[last+1:])
	}
	base = characters(l[:at])
	if base == "" {
		base = string(other)
	}
	return base, end[:min(len(end), maxEnd)]
}

// lastDot returns where the last dot is, -1 if there is none.
func lastDot(l []uint16) int {
	for i, u := range slices.Backward(l) {
		if u == dot {
			return i
		}
	}
	return -1
}

// tried yields the short names that are tried for a name.
func tried(l []uint16) iter.Seq[string] {
	return func(yield func(string) bool) {
		if upper := encoded(ups(l)); IsShort(upper) && !yield(upper) {
			return
		}
		base, end := divided(l)
		if end != "" {
			end = string(dot) + end
		}
		for n := 1; n <= maxTries; n++ {
			mark := "~" + strconv.Itoa(n)
			if !yield(base[:min(len(base), maxBase-len(mark))] + mark + end) {
				return
			}
		}
	}
}

// uppers returns the upper cases of the strings that are well-formed.
func uppers(l []string) map[string]bool {
	set := make(map[string]bool, len(l))
	for _, s := range l {
		if upper, e := Upper(s); e == api.OK {
			set[upper] = true
		}
	}
	return set
}

// Short returns the first short name for a name that is alike to none of taken.
func Short(s string, taken []string) (string, api.Errno) {
	return call(func() string {
		l := nameOf(s)
		used := uppers(taken)
		for short := range tried(l) {
			// A short name is well-formed and its own upper case.
			if !used[short] {
				return short
			}
		}
		panic(api.ErrFull)
	})
}
