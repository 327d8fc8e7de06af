package names

import (
	"errors"
	"slices"
	"testing"

	"archivolt/api"
)

// No call may panic: even what nothing here panics with becomes an error, with no result.
func TestCall(t *testing.T) {
	for _, c := range []struct {
		ended any
		e     api.Errno
	}{{api.ErrName, api.ErrName}, {api.ErrLimit, api.ErrLimit}, {"another one", api.ErrForm}, {errors.New("another one"), api.ErrForm}} {
		if n, e := call(func() int { panic(c.ended) }); n != 0 || e != c.e {
			t.Error(c, n, e)
		}
	}
	if n, e := call(func() int { return 5 }); n != 5 || e != api.OK {
		t.Error(n, e)
	}
}

// Rows must rise, because the search ends at the first one that lies behind a unit.
func TestP5_2Rows(t *testing.T) {
	last := -1
	for _, r := range rows {
		if r.from <= last || r.to < r.from || (r.to-r.from)%r.every != 0 {
			t.Error(r)
		}
		last = r.to
	}
}

// What is yielded may be ranged over in part, also between the two units of a code point, and again.
func TestRanging(t *testing.T) {
	all := unitsOf("a\U0001f600b")
	want := []uint16{'a', 55357, 56832, 'b'}
	for n := range len(want) + 1 {
		var got []uint16
		for u := range all {
			if len(got) == n {
				break
			}
			got = append(got, u)
		}
		if !slices.Equal(got, want[:n]) {
			t.Error(n, got)
		}
	}
	for c := range pointsOf(want) {
		if c != 'a' {
			t.Error(c)
		}
		break
	}
	if got := slices.Collect(pointsOf(want)); !slices.Equal(got, []int{'a', 0x1f600, 'b'}) {
		t.Error(got)
	}
	for range 2 {
		many := 0
		for short := range tried(want[:1]) {
			many++
			if many == 1 && short != "A" || many == 2 && short != "A~1" {
				t.Error(short)
			}
		}
		if many != 1+maxTries {
			t.Error(many)
		}
	}
}
