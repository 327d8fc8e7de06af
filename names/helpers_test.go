package names_test

import (
	"cmp"
	"math/rand"
	"slices"
	"strconv"
	"strings"
	"testing"
	"unicode/utf16"
	"unicode/utf8"

	"archivolt/api"
	"archivolt/names"
)

// chance returns a source of numbers that are the same in each run.
func chance() *rand.Rand { return rand.New(rand.NewSource(1)) }

// good returns a function that returns what a call does, and wants no error.
func good[T any](t *testing.T) func(T, api.Errno) T {
	return func(x T, e api.Errno) T {
		t.Helper()
		if e != api.OK {
			t.Fatal(e)
		}
		return x
	}
}

const (
	high    = "\xed\xa0\x80"     // the first high surrogate
	low     = "\xed\xb0\x80"     // the first low surrogate
	smiling = "\xf0\x9f\x98\x80" // has two units
)

// notWell are strings that are not well-formed.
func notWell() []string {
	return []string{
		"\x80", "\xbf", "\xc0", "\xff", "\xfe", "a\x80", "\x80a", "é\xa9", // a first byte that is none
		"\xc3", "\xe2", "\xe2\x82", "\xf0", "\xf0\x9f", "\xf0\x9f\x98", "a\xc3", "\xed\xa0", // too few bytes
		"\xc3a", "\xc3\xc3", "\xc3\x00", "\xc3\x7f", "\xc3\xc0", "\xe2a\x82", "\xe2\x82a", "\xe2\x82\xc0", "\xf0\x9f\x98a", "\xf0\x9f\xd8\x80", "\xf0\x1f\x98\x80", // another byte between
		"\xc0\x80", "\xc1\xbf", "\xe0\x80\x80", "\xe0\x81\x81", "\xe0\x9f\xbf", "\xf0\x80\x80\x80", "\xf0\x8f\xbf\xbf", // more bytes than are needed
		"\xf4\x90\x80\x80", "\xf5\x80\x80\x80", "\xf7\xbf\xbf\xbf", "\xf8\x88\x80\x80\x80", "\xfc\x84\x80\x80\x80\x80", // too great
		high + low, "a" + high + low + "b", "\xed\xaf\xbf\xed\xbf\xbf", high + high + low, // two surrogates that would be one code point
		strings.Repeat("a", api.MaxUnits+1), strings.Repeat(smiling, api.MaxUnits/2) + "a", strings.Repeat("a", api.MaxUnits-1) + smiling, strings.Repeat("€", 9999), // too many units
	}
}

// plainPoint returns the first code point of a string, and how many bytes it has, 0 if there is none.
func plainPoint(s string) (c, many int) {
	if len(s) >= 3 && s[0] == 0xed && s[1] >= 0xa0 && s[1] <= 0xbf && s[2] >= 0x80 && s[2] <= 0xbf {
		return 0xd000 + int(s[1]-0x80)<<6 + int(s[2]-0x80), 3
	}
	r, many := utf8.DecodeRuneInString(s)
	if r == utf8.RuneError && many == 1 {
		return 0, 0
	}
	return int(r), many
}

// plainUnits returns the units of a string, and whether it is well-formed.
func plainUnits(s string) ([]uint16, bool) {
	var l []uint16
	single := false // whether the last unit is a code point
	for s != "" {
		c, many := plainPoint(s)
		if many == 0 {
			return nil, false
		}
		if single && c>>10 == 0xdc00>>10 && l[len(l)-1]>>10 == 0xd800>>10 {
			return nil, false
		}
		single = c < 65536
		if single {
			l = append(l, uint16(c))
		} else {
			a, b := utf16.EncodeRune(rune(c))
			l = append(l, uint16(a), uint16(b))
		}
		s = s[many:]
	}
	return l, len(l) <= api.MaxUnits
}

// plainUp is the table of the chapter, row by row.
func plainUp(u int) int {
	in := func(from, to int) bool { return u >= from && u <= to }
	odd := u%2 == 1
	switch {
	case in(97, 122), in(224, 246), in(248, 254), in(945, 961), in(963, 969), in(1072, 1103):
		return u - 32
	case u == 255:
		return 376
	case odd && (in(257, 311) || in(331, 375)):
		return u - 1
	case !odd && in(314, 328):
		return u - 1
	case u == 962:
		return 931
	case in(1104, 1119):
		return u - 80
	case odd && in(1121, 1153):
		return u - 1
	}
	return u
}

func plainUps(l []uint16) []uint16 {
	all := slices.Clone(l)
	for i, u := range all {
		all[i] = uint16(plainUp(int(u)))
	}
	return all
}

func plainCompare(a, b string) int {
	x, xWell := plainUnits(a)
	y, yWell := plainUnits(b)
	switch {
	case xWell && yWell:
		return cmp.Or(slices.Compare(plainUps(x), plainUps(y)), slices.Compare(x, y))
	case xWell:
		return -1
	case yWell:
		return 1
	}
	return cmp.Compare(a, b)
}

func plainAlike(a, b string) bool {
	x, xWell := plainUnits(a)
	y, yWell := plainUnits(b)
	return a == b || xWell && yWell && slices.Equal(plainUps(x), plainUps(y))
}

const plainSet = "ABCDEFGHIJKLMNOPQRSTUVWXYZ0123456789!#$%&'()-@^_{}~"

func plainIsShort(s string) bool {
	all := strings.Split(s, ".")
	if len(all) > 2 || len(all[0]) < 1 || len(all[0]) > 8 || strings.Trim(all[0], plainSet) != "" {
		return false
	}
	return len(all) == 1 || len(all[1]) >= 1 && len(all[1]) <= 3 && strings.Trim(all[1], plainSet) == ""
}

// plainShorts returns the short names that are tried for a name.
func plainShorts(t *testing.T, name string) []string {
	l, _ := plainUnits(name)
	// All units as runes, for which surrogates have another one that is in no short name either.
	var all []rune
	for _, u := range plainUps(l) {
		all = append(all, rune(u))
	}
	chars := func(l []rune) string {
		s := ""
		for _, c := range l {
			if c != ' ' && c != '.' && strings.ContainsRune(plainSet, c) {
				s += string(c)
			} else if c != ' ' && c != '.' {
				s += "_"
			}
		}
		return s
	}
	e, ahead := "", all
	for i := len(all) - 1; i > 0; i-- {
		if all[i] == '.' {
			e, ahead = chars(all[i+1:]), all[:i]
			break
		}
	}
	b := cmp.Or(chars(ahead), "_")
	if len(e) > 3 {
		e = e[:3]
	}
	if e != "" {
		e = "." + e
	}
	var tried []string
	if upper := good[string](t)(names.Upper(name)); plainIsShort(upper) {
		tried = append(tried, upper)
	}
	for n := 1; n <= 9999; n++ {
		d := strconv.Itoa(n)
		tried = append(tried, b[:min(len(b), 7-len(d))]+"~"+d+e)
	}
	return tried
}

// plainMatch reports whether a pattern matches, in upper case, by all ways to divide the name.
func plainMatch(pattern, name []uint16) bool {
	if len(pattern) == 0 {
		return len(name) == 0
	}
	if pattern[0] == '*' {
		return plainMatch(pattern[1:], name) || len(name) > 0 && plainMatch(pattern, name[1:])
	}
	return len(name) > 0 && (pattern[0] == '?' || pattern[0] == name[0]) && plainMatch(pattern[1:], name[1:])
}

// anyUnits returns up to most units: letters in both cases, what is special in names, and such with bytes of each number.
func anyUnits(r *rand.Rand, most int) []uint16 {
	some := []uint16{'a', 'A', 'b', 'B', 'z', '1', '.', ' ', '~', '_', '+', '/', 31, 0, 127, 128, 233, 201, 255, 376, 305, 962, 963, 0x7ff, 0x800, 0x20ac, 0xd800, 0xdbff, 0xdc00, 0xdfff, 0xe000, 0xffff}
	l := make([]uint16, r.Intn(most+1))
	for i := range l {
		l[i] = some[r.Intn(len(some))]
	}
	return l
}

// anyText returns a string that is well-formed, often one that is alike to another one.
func anyText(t *testing.T, r *rand.Rand, most int) string {
	t.Helper()
	return good[string](t)(names.String(anyUnits(r, most)))
}

// anyString returns a string that may be well-formed or not.
func anyString(t *testing.T, r *rand.Rand, most int) string {
	t.Helper()
	s := anyText(t, r, most)
	if r.Intn(4) == 0 && s != "" {
		at := r.Intn(len(s))
		s = s[:at] + string([]byte{byte(r.Intn(256))}) + s[at+r.Intn(2):]
	}
	return s
}

// anyName returns a name of some of these characters.
func anyName(r *rand.Rand, of string, most int) string {
	all := []rune(of)
	for {
		s := ""
		for range 1 + r.Intn(most) {
			s += string(all[r.Intn(len(all))])
		}
		if names.Valid(s) {
			return s
		}
	}
}

// changed returns a string with other cases of its letters.
func changed(r *rand.Rand, s string) string {
	var b strings.Builder
	for _, c := range s {
		switch r.Intn(3) {
		case 0:
			c = rune(plainUp(int(c)))
		case 1:
			if c >= 'A' && c <= 'Z' {
				c += 32
			}
		}
		b.WriteRune(c)
	}
	return b.String()
}
