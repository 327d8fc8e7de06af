package names_test

import (
	"slices"
	"strings"
	"testing"

	"archivolt/api"
	"archivolt/names"
)

// checks wants an error of Check, and Valid to be the same.
func checks(t *testing.T, s string, want api.Errno) {
	t.Helper()
	if e := names.Check(s); e != want {
		t.Errorf("%q: %d instead of %d", s, e, want)
	}
	if is := names.Valid(s); is != (want == api.OK) {
		t.Errorf("%q: %v", s, is)
	}
}

func TestP5_3Names(t *testing.T) {
	most := strings.Repeat("é", api.MaxName)
	for _, s := range []string{"a", "ab", ".a", "..a", " a", "a b", "a.b", "~", "a\x7f", "\u0080", "a\u00a0", "..." + "a", "ß", high, low, low + high, smiling, "+,;=[]{}`'^&#%!@$()", most, strings.Repeat(smiling, api.MaxName/2), "\uffff"} {
		checks(t, s, api.OK)
	}
	for _, s := range []string{
		"", ".", "..", "...", "a.", "a..", "a ", " ", "  ", "a .", "a. ", "a/b", "/", "a\x00", "\x1f", "\x00\x00", "a\nb",
		most + "é", most + ".", strings.Repeat(smiling, api.MaxName/2) + "a", strings.Repeat("a", api.MaxName-1) + smiling, strings.Repeat("a", api.MaxUnits), most + high,
	} {
		checks(t, s, api.ErrName)
	}
	for _, s := range notWell() {
		checks(t, s, api.ErrForm)
		checks(t, "/"+s, api.ErrForm)
		checks(t, s+"/", api.ErrForm)
		checks(t, most+most+s, api.ErrForm)
	}
}

// Each unit alone, first, between others, and last.
func TestP5_3EachUnit(t *testing.T) {
	in := func(l ...uint16) string { return good[string](t)(names.String(l)) }
	banned := []uint16{34, 42, 47, 58, 60, 62, 63, 92, 124}
	for u := range 65536 {
		u := uint16(u)
		e, last := api.OK, api.OK
		if u < 32 || slices.Contains(banned, u) {
			e, last = api.ErrName, api.ErrName
		}
		if u == 32 || u == 46 {
			last = api.ErrName
		}
		checks(t, in(u), last)
		checks(t, in(u, 'a'), e)
		checks(t, in('a', u, 'a'), e)
		checks(t, in('a', u), last)
		if t.Failed() {
			t.Fatal(u)
		}
	}
}
