package names_test

import (
	"slices"
	"strings"
	"testing"

	"archivolt/api"
	"archivolt/names"
)

// pair checks that a string has these units, and that they have this string.
func pair(t *testing.T, s string, l []uint16) {
	t.Helper()
	if got, e := names.Units(s); !slices.Equal(got, l) || e != api.OK {
		t.Errorf("%q: %v, %d", s, got, e)
	}
	if got, e := names.String(l); got != s || e != api.OK {
		t.Errorf("%v: %q, %d", l, got, e)
	}
}

func TestP5_1Units(t *testing.T) {
	for _, c := range []struct {
		s string
		l []uint16
	}{
		{"", nil}, {"aé", []uint16{97, 233}}, {"\x00", []uint16{0}}, {smiling, []uint16{55357, 56832}}, {high, []uint16{55296}}, {low, []uint16{56320}},
		{low + high, []uint16{56320, 55296}}, {high + high, []uint16{55296, 55296}}, {high + smiling, []uint16{55296, 55357, 56832}},
		{smiling + low, []uint16{55357, 56832, 56320}}, {high + "a" + low, []uint16{55296, 97, 56320}}, {low + smiling + high, []uint16{56320, 55357, 56832, 55296}},
		{"\x7f\u0080\u07ff\u0800\uffff", []uint16{127, 128, 0x7ff, 0x800, 0xffff}}, {"\U00010000\U0010ffff", []uint16{0xd800, 0xdc00, 0xdbff, 0xdfff}},
		{"\xed\x9f\xbf", []uint16{0xd7ff}}, {"\xee\x80\x80", []uint16{0xe000}}, {"\xed\xaf\xbf\xee\x80\x80", []uint16{0xdbff, 0xe000}}, {"\xed\x9f\xbf" + low, []uint16{0xd7ff, 0xdc00}},
	} {
		pair(t, c.s, c.l)
	}
}

// The bytes and the units of each code point, as the chapter writes them.
func TestP5_1Points(t *testing.T) {
	for c := range 1114112 {
		var b []byte
		switch {
		case c < 128:
			b = []byte{byte(c)}
		case c < 2048:
			b = []byte{byte(192 + c/64), byte(128 + c%64)}
		case c < 65536:
			b = []byte{byte(224 + c/4096), byte(128 + c/64%64), byte(128 + c%64)}
		default:
			b = []byte{byte(240 + c/262144), byte(128 + c/4096%64), byte(128 + c/64%64), byte(128 + c%64)}
		}
		l := []uint16{uint16(c)}
		if c >= 65536 {
			l = []uint16{uint16(55296 + (c-65536)/1024), uint16(56320 + (c-65536)%1024)}
		}
		pair(t, string(b), l)
		if t.Failed() {
			t.Fatal(c)
		}
	}
}

func TestP5_1NotWell(t *testing.T) {
	for _, s := range notWell() {
		if l, e := names.Units(s); len(l) != 0 || e != api.ErrForm {
			t.Errorf("%q: %v, %d", s, l, e)
		}
	}
}

// All strings of few bytes, of those around which something ends.
func TestP5_1Bytes(t *testing.T) {
	ends := "\x00\x7f\x80\x8f\x90\x9f\xa0\xaf\xb0\xbf\xc0\xc1\xc2\xdf\xe0\xe1\xed\xee\xef\xf0\xf1\xf4\xf5\xff"
	var all func(s string, more int)
	all = func(s string, more int) {
		want, well := plainUnits(s)
		l, e := names.Units(s)
		if well && (!slices.Equal(l, want) || e != api.OK) || !well && (len(l) != 0 || e != api.ErrForm) {
			t.Fatalf("%q: %v, %d", s, l, e)
		}
		for i := 0; more > 0 && i < len(ends); i++ {
			all(s+ends[i:i+1], more-1)
		}
	}
	all("", 4)
	r := chance()
	for range 20000 {
		all(anyString(t, r, 8), 0)
	}
}

func TestP5_1Limit(t *testing.T) {
	for _, c := range []struct {
		s     string
		units int
	}{{"a", 1}, {"é", 1}, {"€", 1}, {high, 1}, {smiling, 2}} {
		many := api.MaxUnits / c.units
		s := strings.Repeat(c.s, many)
		l, e := names.Units(s)
		if len(l) != api.MaxUnits || e != api.OK {
			t.Errorf("%q: %d, %d", c.s, len(l), e)
		}
		pair(t, s, l)
		for _, more := range []string{"a", high, smiling, "\x80"} {
			if l, e := names.Units(s + more); len(l) != 0 || e != api.ErrForm {
				t.Errorf("%q: %d, %d", c.s, len(l), e)
			}
		}
		for _, more := range []int{1, 2, 100000} {
			if s, e := names.String(append(l[:api.MaxUnits:api.MaxUnits], make([]uint16, more)...)); s != "" || e != api.ErrLimit {
				t.Errorf("%q: %q, %d", c.s, s, e)
			}
		}
	}
	pair(t, strings.Repeat("a", api.MaxUnits-2)+smiling, append(slices.Repeat([]uint16{97}, api.MaxUnits-2), 55357, 56832))
}
