package names_test

import (
	"bytes"
	"maps"
	"math/rand"
	"slices"
	"strings"
	"testing"

	"archivolt/api"
	"archivolt/names"
)

func TestP5_8Units(t *testing.T) {
	r := chance()
	for range 20000 {
		l := anyUnits(r, 8)
		s := good[string](t)(names.String(l))
		if back := good[[]uint16](t)(names.Units(s)); !slices.Equal(back, l) {
			t.Fatal(l, back)
		}
		a := anyString(t, r, 8)
		if l, e := names.Units(a); e == api.OK {
			if back := good[string](t)(names.String(l)); back != a {
				t.Fatalf("%q, %q", a, back)
			}
		} else if len(l) != 0 {
			t.Fatal(a, l)
		}
	}
}

func TestP5_8Behind(t *testing.T) {
	r := chance()
	met := 0
	for range 20000 {
		a, b := anyUnits(r, 4), anyUnits(r, 4)
		first, second := good[string](t)(names.String(a)), good[string](t)(names.String(b))
		both := good[string](t)(names.String(slices.Concat(a, b)))
		meets := len(a) > 0 && len(b) > 0 && a[len(a)-1]>>10 == 54 && b[0]>>10 == 55
		// Where a high and a low surrogate meet that belong to no other, they become one code point.
		if (both == first+second) == meets {
			t.Fatal(a, b, both)
		}
		l, e := names.Units(first + second)
		if meets && e != api.ErrForm || !meets && (e != api.OK || !slices.Equal(l, slices.Concat(a, b))) {
			t.Fatal(a, b, l, e)
		}
		if meets {
			met++
		}
	}
	if met == 0 {
		t.Error("no surrogates met")
	}
}

// someStrings returns strings of which some are equal, some alike, some not well-formed.
func someStrings(t *testing.T, r *rand.Rand, many int) []string {
	l := make([]string, many)
	for i := range l {
		l[i] = anyString(t, r, 2)
	}
	return append(l, "", "\x80", "a\x80", "A\x80", "a", "A", "ab", "aB", "AB", "ς", "σ", "Σ")
}

func TestP5_9Order(t *testing.T) {
	r := chance()
	l := someStrings(t, r, 60)
	for _, a := range l {
		for _, b := range l {
			ab := names.Compare(a, b)
			if ab != -names.Compare(b, a) || (ab == 0) != (a == b) || ab < -1 || ab > 1 {
				t.Fatalf("%q, %q: %d", a, b, ab)
			}
			for _, c := range l {
				if ab <= 0 && names.Compare(b, c) <= 0 && names.Compare(a, c) > 0 {
					t.Fatalf("%q, %q, %q", a, b, c)
				}
			}
		}
	}
}

func TestP5_9Keys(t *testing.T) {
	r := chance()
	for range 20000 {
		a, b := anyName(r, "aAbBéÉÿŸςσ~_😀\uffff.", 3), anyName(r, "aAbBéÉÿŸςσ~_😀\uffff.", 3)
		if r.Intn(3) == 0 {
			b = a + b
		}
		x, y := good[[]byte](t)(names.Key(a)), good[[]byte](t)(names.Key(b))
		if bytes.Compare(x, y) != names.Compare(a, b) {
			t.Fatalf("%q, %q: %d", a, b, names.Compare(a, b))
		}
	}
}

func TestP5_9Beside(t *testing.T) {
	r := chance()
	for range 100 {
		l := names.Sort(someStrings(t, r, 50))
		for i, a := range l {
			apart := false
			for _, b := range l[i+1:] {
				is := names.Same(a, b)
				if is && apart {
					t.Fatalf("%q, %q", a, b)
				}
				apart = apart || !is
			}
		}
	}
}

func TestP5_10Up(t *testing.T) {
	for u := range 65536 {
		if up := names.Up(uint16(u)); names.Up(up) != up {
			t.Error(u)
		}
	}
	r := chance()
	for range 5000 {
		s := anyText(t, r, 6)
		upper := good[string](t)(names.Upper(s))
		if !names.Same(s, upper) || good[string](t)(names.Upper(upper)) != upper {
			t.Fatalf("%q", s)
		}
	}
}

func TestP5_10Alike(t *testing.T) {
	r := chance()
	l := someStrings(t, r, 60)
	for _, a := range l {
		if !names.Same(a, a) {
			t.Fatalf("%q", a)
		}
		for _, b := range l {
			is := names.Same(a, b)
			if is != names.Same(b, a) {
				t.Fatalf("%q, %q", a, b)
			}
			x, _ := names.Units(a)
			y, _ := names.Units(b)
			if is && len(x) != len(y) {
				t.Fatalf("%q, %q", a, b)
			}
			for _, c := range l {
				if is && names.Same(b, c) && !names.Same(a, c) {
					t.Fatalf("%q, %q, %q", a, b, c)
				}
			}
		}
	}
}

func TestP5_11Short(t *testing.T) {
	r := chance()
	for range 300 {
		s := anyName(r, "aBcd.. é+~1", 12)
		var taken []string
		place := -1
		tried := plainShorts(t, s)
		for range 6 {
			short := good[string](t)(names.Short(s, taken))
			if !names.IsShort(short) || slices.ContainsFunc(taken, func(x string) bool { return names.Same(x, short) }) {
				t.Fatalf("%q, %q: %q", s, taken, short)
			}
			at := slices.Index(tried, short)
			if at < place {
				t.Fatalf("%q, %q: %q", s, taken, short)
			}
			place = at
			if r.Intn(3) > 0 {
				taken = append(taken, changed(r, short))
			}
			taken = append(taken, changed(r, tried[r.Intn(9)]))
		}
	}
}

func TestP5_11IsShort(t *testing.T) {
	r := chance()
	for range 3000 {
		var b strings.Builder
		for range 1 + r.Intn(8) {
			b.WriteByte(plainSet[r.Intn(len(plainSet))])
		}
		if r.Intn(2) == 0 {
			b.WriteByte('.')
			for range 1 + r.Intn(3) {
				b.WriteByte(plainSet[r.Intn(len(plainSet))])
			}
		}
		s := b.String()
		if got, e := names.Short(s, nil); !names.IsShort(s) || names.Check(s) != api.OK || got != s || e != api.OK {
			t.Fatalf("%q: %q, %d", s, got, e)
		}
	}
}

func TestP5_12Patterns(t *testing.T) {
	r := chance()
	match := func(pattern, name string) bool { return good[bool](t)(names.Match(pattern, name)) }
	const all = "aAbBéÉ."
	for range 20000 {
		name := anyName(r, all, 5)
		other := anyName(r, all, 5)
		if r.Intn(2) == 0 {
			other = changed(r, name)
		}
		if match(other, name) != names.Same(other, name) || !match("*", name) {
			t.Fatalf("%q, %q", other, name)
		}
		var pattern string
		for range r.Intn(6) {
			pattern += []string{"a", "B", "?", "*", ".", "é"}[r.Intn(6)]
		}
		if match(pattern, name) && names.Same(name, other) && !match(pattern, other) {
			t.Fatalf("%q, %q, %q", pattern, name, other)
		}
		if match(pattern, name) && !match(pattern+"*", name+other) {
			t.Fatalf("%q, %q, %q", pattern, name, other)
		}
		if i := strings.Index(pattern, "*"); i >= 0 && match(pattern, name) != match(pattern[:i]+"*"+pattern[i:], name) {
			t.Fatalf("%q, %q", pattern, name)
		}
	}
}

// What a pattern and * matches begins with something that the pattern matches, if that is a name.
func TestP5_12Beginnings(t *testing.T) {
	r := chance()
	for range 5000 {
		name := anyName(r, "aAbB", 6)
		var pattern string
		for range 1 + r.Intn(5) {
			pattern += []string{"a", "B", "?", "*"}[r.Intn(4)]
		}
		begins := pattern == strings.Repeat("*", len(pattern)) // then nothing is enough
		for i := 1; i <= len(name); i++ {
			begins = begins || good[bool](t)(names.Match(pattern, name[:i]))
		}
		if got := good[bool](t)(names.Match(pattern+"*", name)); got != begins {
			t.Fatalf("%q, %q: %v", pattern, name, got)
		}
	}
}

func TestP5_13Sorted(t *testing.T) {
	count := func(l []string) map[string]int {
		m := map[string]int{}
		for _, s := range l {
			m[s]++
		}
		return m
	}
	r := chance()
	for range 300 {
		l := someStrings(t, r, r.Intn(60))
		l = append(l, l[:r.Intn(5)]...)
		sorted := names.Sort(l)
		if !maps.Equal(count(l), count(sorted)) || !slices.IsSortedFunc(sorted, plainCompare) || !slices.Equal(names.Sort(sorted), sorted) {
			t.Fatalf("%q: %q", l, sorted)
		}
	}
}
