package names_test

import (
	"slices"
	"strconv"
	"strings"
	"testing"

	"archivolt/api"
	"archivolt/names"
)

func TestP5_6IsShort(t *testing.T) {
	for s, want := range map[string]bool{
		"A": true, "A~1": true, "ABCDEFGH": true, "ABCDEFGH.TXT": true, "A.B": true, "A.BC": true, "0": true, "!#$%&'()": true, "-@^_{}~9.Z_~": true,
		"": false, ".": false, "..": false, "A.": false, ".A": false, "A.B.C": false, "A..B": false, "ABCDEFGHI": false, "ABCDEFGHI.A": false, "A.TEXT": false, "A.ABCD": false, "ABCDEFGHIJKL": false,
		"a": false, "Ab": false, "A.b": false, "A B": false, " A": false, "A ": false, "A.B ": false, "A+": false, "A`": false, "É": false, "A.É": false, "\x80": false, "A\x80": false, "A.\xc3": false, "A/B": false, "A*": false,
		"A\x00": false, smiling: false, high: false, "Ā": false, "\U00010041": false, "\u0141": false,
	} {
		if got := names.IsShort(s); got != want {
			t.Errorf("%q: %v", s, got)
		}
	}
	for u := range 65536 {
		s := good[string](t)(names.String([]uint16{uint16(u)}))
		want := len(s) == 1 && strings.Contains(plainSet, s)
		for _, in := range []string{s, "A" + s, "A." + s, "B.C" + s} {
			// A dot may be in front of an extension, if there is none yet.
			if got := names.IsShort(in); got != want {
				t.Errorf("%q: %v", in, got)
			}
		}
	}
}

func TestP5_6Short(t *testing.T) {
	for _, c := range []struct {
		s     string
		taken []string
		want  string
	}{
		{"readme.txt", nil, "README.TXT"}, {"README.TXT", nil, "README.TXT"}, {"my long name.text", nil, "MYLONG~1.TEX"}, {"a long name.text", nil, "ALONGN~1.TEX"}, {".profile", nil, "PROFIL~1"},
		{"my long name.text", []string{"MYLONG~1.TEX", "mylong~2.tex"}, "MYLONG~3.TEX"}, {"my long name.text", []string{"MYLONG~2.TEX"}, "MYLONG~1.TEX"}, {"my long name.text", []string{"MYLONG~1"}, "MYLONG~1.TEX"},
		{"abc", []string{"ABC"}, "ABC~1"}, {"abc", []string{"Abc", "aBc~1"}, "ABC~2"}, {"abc.d", []string{"abc"}, "ABC.D"}, {"abc.d", []string{"abc.D"}, "ABC~1.D"},
		{"+", nil, "_~1"}, {"+.+", nil, "_~1._"}, {"a+b.c", nil, "A_B~1.C"}, {"a.b.c", nil, "AB~1.C"}, {"a b", nil, "AB~1"}, {" a", nil, "A~1"}, {"..a", nil, "_~1.A"}, {" .a", nil, "_~1.A"}, {".a.b", nil, "A~1.B"}, {".a", nil, "A~1"},
		{"a. b c d", nil, "A~1.BCD"}, {"a. b", nil, "A~1.B"}, {"a.éßx", nil, "A~1.__X"}, {"é", nil, "_~1"}, {smiling, nil, "__~1"}, {smiling + "a", nil, "__A~1"}, {high, nil, "_~1"}, {"ﬀ", nil, "_~1"}, {"ı", nil, "_~1"},
		{"abcdefgh", nil, "ABCDEFGH"}, {"abcdefghi", nil, "ABCDEF~1"}, {"abcdefgh.text", nil, "ABCDEF~1.TEX"}, {"a.text", nil, "A~1.TEX"}, {"abcdef~1", []string{"ABCDEF~1"}, "ABCDEF~2"}, {"a~1", []string{"a~1"}, "A~1~1"},
		{"a\u00a0b", nil, "A_B~1"}, {"a`b", nil, "A_B~1"}, {"a,b;c=d[e].f]", nil, "A_B_C_~1.F_"}, {"-.x", nil, "-.X"},
		{"abc", []string{"\x80", "abc\x80", strings.Repeat("x", 9999)}, "ABC"}, {"abc", []string{"ABC\x80"}, "ABC"}, {"abc", []string{"", "/", "a/b"}, "ABC"},
		{strings.Repeat("x", api.MaxName), nil, "XXXXXX~1"}, {strings.Repeat("x", 28) + ".jpg", nil, "XXXXXX~1.JPG"}, {"x." + strings.Repeat("y", 30), nil, "X~1.YYY"},
	} {
		if got, e := names.Short(c.s, c.taken); got != c.want || e != api.OK {
			t.Errorf("%q: %q, %d", c.s, got, e)
		}
	}
	for _, s := range append(notWell(), "", ".", "..", "a.", "a/b", "a/\x80", strings.Repeat("q", api.MaxName+1)) {
		if got, e := names.Short(s, []string{"A", s}); got != "" || e != names.Check(s) || e == api.OK {
			t.Errorf("%q: %q, %d", s, got, e)
		}
	}
}

// All that are tried, one after the other, until there is none.
func TestP5_6Tried(t *testing.T) {
	for _, s := range []string{"my long name.text", "abc.d", "x", "+", "abcdef~1"} {
		tried := plainShorts(t, s)
		for _, n := range []int{0, 1, 2, 8, 9, 10, 11, 98, 99, 100, 101, 998, 999, 1000, 1001, 9997, 9998} {
			taken := slices.Clone(tried[:n])
			for i := range taken {
				taken[i] = strings.ToLower(taken[i])
			}
			// What was tried may be alike to an earlier one.
			next := n
			for slices.Contains(tried[:n], tried[next]) {
				next++
			}
			if got, e := names.Short(s, taken); got != tried[next] || e != api.OK {
				t.Errorf("%q, %d: %q, %d", s, n, got, e)
			}
		}
		if got, e := names.Short(s, tried); got != "" || e != api.ErrFull {
			t.Errorf("%q: %q, %d", s, got, e)
		}
		last := len(tried) - 1
		if got, e := names.Short(s, tried[:last]); got != tried[last] || e != api.OK || !strings.Contains(got, "~"+strconv.Itoa(9999)) {
			t.Errorf("%q: %q, %d", s, got, e)
		}
	}
}

func TestP5_6AnyShort(t *testing.T) {
	r := chance()
	for range 300 {
		s := anyName(r, "aBc.. é+~1😀", 1+r.Intn(14))
		tried := plainShorts(t, s)
		var taken []string
		for range r.Intn(4) {
			taken = append(taken, changed(r, tried[r.Intn(4)]))
		}
		want := slices.IndexFunc(tried, func(x string) bool {
			return !slices.ContainsFunc(taken, func(y string) bool { return plainAlike(x, y) })
		})
		if got, e := names.Short(s, taken); got != tried[want] || e != api.OK {
			t.Fatalf("%q, %q: %q, %d", s, taken, got, e)
		}
	}
}
