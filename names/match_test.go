package names_test

import (
	"strings"
	"testing"

	"archivolt/api"
	"archivolt/names"
)

func TestP5_7Match(t *testing.T) {
	long := strings.Repeat("a", api.MaxName)
	for _, c := range []struct {
		pattern, name string
		want          bool
	}{
		{"*.t?t", "readme.txt", true}, {"a*a", "a", false}, {"a*a", "aa", true}, {"A?C", "abc", true}, {"*", "x", true}, {"", "x", false}, {"**b*", "abc", true},
		{"x", "x", true}, {"x", "X", true}, {"X", "x", true}, {"x", "y", false}, {"x", "xx", false}, {"xx", "x", false}, {"?", "x", true}, {"?", "xy", false}, {"??", "x", false}, {"??", "xy", true},
		{"?*", "x", true}, {"*?", "x", true}, {"?*?", "x", false}, {"?*?", "xy", true}, {"**", "x", true}, {"*x", "x", true}, {"x*", "x", true}, {"*x*", "x", true}, {"*y*", "x", false}, {"*y", "x", false}, {"y*", "x", false},
		{"a*b*c", "aXbXc", true}, {"a*b*c", "acb", false}, {"a*b*c", "abcb", false}, {"a*b*c", "abbcc", true}, {"a*bc*bc", "abc", false}, {"a*bc*bc", "abcbc", true}, {"*ab*ab", "aab", false}, {"*aab*", "aaab", true}, {"*a?a*", "aba", true},
		{"*ab*ba*", "aba", false}, {"*ab*ba*", "abba", true}, {"ab*ba", "aba", false}, {"ab*ba", "abba", true}, {"a*ab", "ab", false}, {"a?*b", "ab", false}, {"*.*", "ab", false}, {"*.*", "a.b", true}, {"*.*", ".b", true}, {"?.*", ".b", false},
		{"é", "É", true}, {"É*ς", "éaσ", true}, {"ÿ?", "Ÿx", true}, {"ß", "ss", false}, {"?", "é", true}, {"?", smiling, false}, {"??", smiling, true}, {high + "?", smiling, false}, {"\xed\xa0\xbd?", smiling, true}, {"?\xed\xb8\x80", smiling, true}, {smiling, smiling, true},
		{"*\xed\xb8\x80", smiling, true}, {"a/b", "ab", false}, {"/", "x", false}, {"x.", "x", false}, {"\x00", "x", false},
		{long, long, true}, {long + "?", long, false}, {strings.Repeat("?", api.MaxName), long, true}, {strings.Repeat("?", api.MaxPattern), long, false}, {strings.Repeat("*", api.MaxPattern), long, true},
		{strings.Repeat("*a", api.MaxName), long, true}, {strings.Repeat("a*", api.MaxName), long, true}, {strings.Repeat("a*", api.MaxName-1) + "b", long, false}, {strings.Repeat("*a", api.MaxName-1) + "*b", long, false},
	} {
		if got, e := names.Match(c.pattern, c.name); got != c.want || e != api.OK {
			t.Errorf("%q, %q: %v, %d", c.pattern, c.name, got, e)
		}
	}
}

func TestP5_7Errors(t *testing.T) {
	limit := strings.Repeat("*", api.MaxPattern)
	for _, c := range []struct {
		pattern, name string
		e             api.Errno
	}{
		{"x", "a/b", api.ErrName}, {"*", "", api.ErrName}, {"", "", api.ErrName}, {"a.", "a.", api.ErrName}, {"*", "*", api.ErrName}, {"*", strings.Repeat("a", api.MaxName+1), api.ErrName}, {limit, ".", api.ErrName}, {"*", "\x80", api.ErrForm}, {"*", "/\x80", api.ErrForm}, {limit, "\x80", api.ErrForm},
		{limit + "*", "x", api.ErrLimit}, {limit + "*", "/", api.ErrLimit}, {limit + "*", "\x80", api.ErrLimit}, {strings.Repeat(smiling, api.MaxPattern/2) + "a", "x", api.ErrLimit}, {strings.Repeat("*", api.MaxUnits), "x", api.ErrLimit},
		{strings.Repeat("*", api.MaxUnits+1), "x", api.ErrForm}, {limit + limit + "\x80", "x", api.ErrForm}, {"\x80", "/", api.ErrForm}, {high + low, "x", api.ErrForm},
	} {
		if got, e := names.Match(c.pattern, c.name); got || e != c.e {
			t.Errorf("%q, %q: %v, %d", c.pattern, c.name, got, e)
		}
	}
	for _, s := range notWell() {
		if got, e := names.Match(s, ""); got || e != api.ErrForm {
			t.Errorf("%q: %v, %d", s, got, e)
		}
		if got, e := names.Match("*", s); got || e != api.ErrForm {
			t.Errorf("%q: %v, %d", s, got, e)
		}
	}
	for _, pattern := range []string{limit, strings.Repeat(smiling, api.MaxPattern/2), strings.Repeat("é", api.MaxPattern)} {
		if _, e := names.Match(pattern, "x"); e != api.OK {
			t.Errorf("%q: %d", pattern, e)
		}
	}
}

func TestP5_7Any(t *testing.T) {
	r := chance()
	hits := 0
	for range 30000 {
		name := anyName(r, "aAbB.é😀", 6)
		var pattern strings.Builder
		for range r.Intn(7) {
			pattern.WriteString([]string{"a", "B", "?", "*", "*", ".", "É", smiling}[r.Intn(8)])
		}
		p, _ := plainUnits(pattern.String())
		l, _ := plainUnits(name)
		want := plainMatch(plainUps(p), plainUps(l))
		if got := good[bool](t)(names.Match(pattern.String(), name)); got != want {
			t.Fatalf("%q, %q: %v", pattern.String(), name, got)
		}
		if want {
			hits++
		}
	}
	if hits < 1000 {
		t.Error(hits)
	}
}
