package press_test

import (
	"math"
	"slices"
	"strings"
	"testing"

	"archivolt/api"
	"archivolt/press"
)

func TestP6_1Width(t *testing.T) {
	for _, c := range []struct{ p, width, reach int }{
		{0, 4, 4098}, {1, 4, 4098}, {15, 4, 4098}, {16, 4, 4098}, {17, 5, 2050}, {32, 5, 2050}, {33, 6, 1026},
		{64, 6, 1026}, {65, 7, 514}, {1024, 10, 66}, {1025, 11, 34}, {2048, 11, 34}, {2049, 12, 18}, {3743, 12, 18}, {3744, 12, 18},
	} {
		if width, reach, e := press.Width(c.p); width != c.width || reach != c.reach || e != api.OK {
			t.Error(c, width, reach, e)
		}
	}
	for p := range api.MaxUnit + 1 {
		wantWidth, wantReach := plainWidth(p)
		if width, reach, e := press.Width(p); width != wantWidth || reach != wantReach || e != api.OK {
			t.Error(p, width, reach, e)
		}
	}
	for _, p := range []int{-1, math.MinInt, api.MaxUnit + 1, 4096, 4097, 1 << 32, math.MaxInt} {
		if width, reach, e := press.Width(p); width != 0 || reach != 0 || e != api.ErrRange {
			t.Error(p, width, reach, e)
		}
	}
}

func TestP6_1Longest(t *testing.T) {
	for _, c := range []struct {
		b             string
		p, back, many int
	}{
		{"abcabcab", 3, 3, 5}, // goes on into itself
		{"aaaa", 1, 1, 3}, {"aaaa", 2, 1, 2}, {"aaaa", 3, 1, 1}, {"aaaa", 4, 0, 0}, {"aaaa", 0, 0, 0},
		{"", 0, 0, 0}, {"a", 0, 0, 0}, {"a", 1, 0, 0}, {"ab", 1, 0, 0}, {"aa", 1, 1, 1},
		{"abxaby", 3, 3, 2}, {"abxaby", 4, 3, 1}, {"abxaby", 5, 0, 0},
		{"abcabdabc", 6, 6, 3}, {"abcabdabd", 6, 3, 3}, {"abcabdab", 6, 3, 2}, // the least offset of several, at the end too
		{"xaxbxcx", 6, 2, 1}, {"abcdbcdacd", 7, 7, 1}, {"abcdbcdacd", 8, 3, 2},
		{"\x00\x00\x00\x01\x00\x00\x00", 4, 4, 3},
	} {
		if back, many, e := press.Longest([]byte(c.b), c.p); back != c.back || many != c.many || e != api.OK {
			t.Error(c, back, many, e)
		}
	}
}

// The reach ends a match, also where the data goes on, and of the offsets that have all of it the least counts.
func TestP6_1LongestReach(t *testing.T) {
	zeros := make([]byte, api.MaxUnit)
	words := []byte(strings.Repeat("abcde", 749)[:api.MaxUnit])
	for p := range api.MaxUnit + 1 {
		_, reach := plainWidth(p)
		wantBack, wantMany := min(p, 1), min(reach, api.MaxUnit-p)
		if p == 0 || p == api.MaxUnit {
			wantBack, wantMany = 0, 0
		}
		if back, many, e := press.Longest(zeros, p); back != wantBack || many != wantMany || e != api.OK {
			t.Error(p, back, many, e)
		}
		if p > 0 && p < 5 {
			wantMany = 0
		}
		if back, many, e := press.Longest(words, p); back != 5*min(wantMany, 1) || many != wantMany || e != api.OK {
			t.Error(p, back, many, e)
		}
	}
	// 40 bytes behind 40 that are other ones by their last one: at 2049 and beyond both have 18 of them.
	b := slices.Repeat([]byte{1}, api.MaxUnit)
	for i := range 40 {
		b[i], b[100+i], b[2049+i] = byte(100+i), byte(100+i), byte(100+i)
	}
	b[100+39] = 99
	if back, many, e := press.Longest(b, 2049); back != 1949 || many != 18 || e != api.OK {
		t.Error(back, many, e)
	}
	if back, many, e := press.Longest(b, 2049+30); back != 2079-30 || many != 18 || e != api.OK {
		t.Error(back, many, e)
	}
	if back, many, e := press.Longest(b, 100); back != 100 || many != 39 || e != api.OK {
		t.Error(back, many, e)
	}
}

func TestP6_1LongestAnyData(t *testing.T) {
	r := chance()
	for range 400 {
		b := anyData(r, 120, 1+r.Intn(5))
		for p := range len(b) + 1 {
			back, many, e := press.Longest(b, p)
			if wantBack, wantMany := plainLongest(b, p); back != wantBack || many != wantMany || e != api.OK {
				t.Fatal(b, p, back, many, e)
			}
		}
	}
	for name, b := range units() {
		for range 60 {
			p := r.Intn(len(b) + 1)
			back, many, e := press.Longest(b, p)
			if wantBack, wantMany := plainLongest(b, p); back != wantBack || many != wantMany || e != api.OK {
				t.Error(name, p, back, many, e)
			}
		}
	}
}

func TestP6_1LongestErrors(t *testing.T) {
	for _, c := range []struct {
		many, p int
		e       api.Errno
	}{
		{0, 1, api.ErrRange}, {0, -1, api.ErrRange}, {5, 6, api.ErrRange}, {5, -1, api.ErrRange}, {5, math.MinInt, api.ErrRange}, {5, math.MaxInt, api.ErrRange},
		{api.MaxUnit, api.MaxUnit + 1, api.ErrRange}, {api.MaxUnit, -1, api.ErrRange},
		{api.MaxUnit + 1, 0, api.ErrLimit}, {api.MaxUnit + 1, api.MaxUnit + 1, api.ErrLimit}, {api.MaxUnit + 1, -1, api.ErrLimit}, {api.MaxUnit + 1, math.MaxInt, api.ErrLimit}, {99999, 5, api.ErrLimit},
	} {
		if back, many, e := press.Longest(make([]byte, c.many), c.p); back != 0 || many != 0 || e != c.e {
			t.Error(c, back, many, e)
		}
	}
}
