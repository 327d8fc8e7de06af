package names_test

import (
	"bytes"
	"slices"
	"strings"
	"testing"

	"archivolt/api"
	"archivolt/names"
)

func TestP5_4Compare(t *testing.T) {
	for _, c := range []struct {
		a, b string
		want int
	}{
		{"a", "B", -1}, {"a", "A", 1}, {"a", "ab", -1}, {"Z", "a", 1}, {"", "", 0}, {"", "a", -1}, {"a", "a", 0}, {"A", "ab", -1}, {"aB", "Ab", 1}, {"ab", "AC", -1}, {"AB", "a", 1},
		{"ab", "aB", 1}, {"Ab", "aB", -1}, {"~", "é", -1}, {"_", "a", 1}, {"[", "z", 1}, {"é", "É", 1}, {"é", "z", 1}, {"ß", "ss", 1}, {"ς", "Σ", 1}, {"ς", "σ", -1},
		{"\uffff", smiling, 1}, {"\xed\x9f\xbf", smiling, -1}, {"\ue000", smiling, 1}, {high, smiling, -1}, // units, not code points, are compared
		{"\x00", "", 1}, {"a\x00", "a", 1},
		{"\x80", "zz", 1}, {"\x80", "\xff\xff", -1}, {"\x80", "\uffff", 1}, {"\x80", "", 1}, {"\x80", "\x81", -1}, {"\x80", "\x80", 0}, {"\x80a", "\x80A", 1}, {"a\x80", "B\x80", 1}, {"\x80", "\x80a", -1}, {"\xc0\x80", "\xff", -1},
		{strings.Repeat("a", api.MaxUnits+1), strings.Repeat("b", api.MaxUnits), 1}, {strings.Repeat("a", api.MaxUnits+1), strings.Repeat("B", api.MaxUnits+1), 1}, {high + low, high, 1},
	} {
		if got := names.Compare(c.a, c.b); got != c.want {
			t.Errorf("%.20q, %.20q: %d", c.a, c.b, got)
		}
		if got := names.Compare(c.b, c.a); got != -c.want {
			t.Errorf("%.20q, %.20q: %d", c.b, c.a, got)
		}
	}
	r := chance()
	for range 20000 {
		a, b := anyString(t, r, 3), anyString(t, r, 3)
		if got := names.Compare(a, b); got != plainCompare(a, b) {
			t.Fatalf("%q, %q: %d", a, b, got)
		}
	}
}

func TestP5_4Same(t *testing.T) {
	for _, c := range []struct {
		a, b string
		want bool
	}{
		{"Straße", "STRAßE", true}, {"", "", true}, {"a", "A", true}, {"a", "b", false}, {"a", "ab", false}, {"a", "", false}, {"ς", "σ", true}, {"ÿ", "Ÿ", true}, {"ß", "SS", false}, {"ŉ", "ʼN", false},
		{smiling, smiling, true}, {high, high, true}, {high, low, false}, {"a/\x00", "A/\x00", true}, {"𐐨", "𐐀", false},
		{"\x80", "\x80", true}, {"\x80", "\x81", false}, {"a\x80", "A\x80", false}, {"\x80", "", false}, {"", "\x80", false}, {"a", "a\x80", false},
		{strings.Repeat("a", api.MaxUnits), strings.Repeat("A", api.MaxUnits), true}, {strings.Repeat("a", api.MaxUnits+1), strings.Repeat("A", api.MaxUnits+1), false},
		{strings.Repeat("a", api.MaxUnits+1), strings.Repeat("a", api.MaxUnits+1), true},
	} {
		if got := names.Same(c.a, c.b); got != c.want {
			t.Errorf("%.20q, %.20q: %v", c.a, c.b, got)
		}
		if got := names.Same(c.b, c.a); got != c.want {
			t.Errorf("%.20q, %.20q: %v", c.b, c.a, got)
		}
	}
	r := chance()
	for range 20000 {
		a, b := anyString(t, r, 3), anyString(t, r, 3)
		if got := names.Same(a, b); got != plainAlike(a, b) {
			t.Fatalf("%q, %q: %v", a, b, got)
		}
	}
}

func TestP5_4Sort(t *testing.T) {
	for _, c := range []struct{ l, want []string }{
		{nil, nil}, {[]string{}, nil}, {[]string{"x"}, []string{"x"}}, {[]string{"b", "a", "B", "A"}, []string{"A", "a", "B", "b"}},
		{[]string{"a", "\x81", "A", "", "a", "\x80", "é", "ab", "É", "\uffff", smiling, "A"}, []string{"", "A", "A", "a", "a", "ab", "É", "é", smiling, "\uffff", "\x80", "\x81"}},
	} {
		if got := names.Sort(c.l); !slices.Equal(got, c.want) {
			t.Errorf("%q: %q", c.l, got)
		}
	}
}

func TestP5_5Key(t *testing.T) {
	for _, c := range []struct{ s, want string }{
		{"a", "\x00A\x00\x00\x00a"}, {"ab", "\x00A\x00B\x00\x00\x00a\x00b"}, {"A", "\x00A\x00\x00\x00A"}, {"ÿ", "\x01\x78\x00\x00\x00\xff"}, {"€", "\x20\xac\x00\x00\x20\xac"},
		{smiling, "\xd8\x3d\xde\x00\x00\x00\xd8\x3d\xde\x00"}, {".x", "\x00.\x00X\x00\x00\x00.\x00x"},
	} {
		if k, e := names.Key(c.s); string(k) != c.want || e != api.OK {
			t.Errorf("%q: %q, %d", c.s, k, e)
		}
	}
	if k, e := names.Key(strings.Repeat("q", api.MaxName)); len(k) != 4*api.MaxName+2 || e != api.OK {
		t.Error(len(k), e)
	}
	for _, s := range append(notWell(), "", ".", "a.", "a/b", "/\x80", strings.Repeat("q", api.MaxName+1)) {
		if k, e := names.Key(s); len(k) != 0 || e != names.Check(s) || e == api.OK {
			t.Errorf("%q: %q, %d", s, k, e)
		}
	}
	r := chance()
	for range 5000 {
		s := anyText(t, r, 4)
		if !names.Valid(s) {
			continue
		}
		l, _ := plainUnits(s)
		var want []byte
		for _, u := range slices.Concat(plainUps(l), []uint16{0}, l) {
			want = append(want, byte(u/256), byte(u%256))
		}
		if k := good[[]byte](t)(names.Key(s)); !bytes.Equal(k, want) {
			t.Fatalf("%q: %q", s, k)
		}
	}
}
