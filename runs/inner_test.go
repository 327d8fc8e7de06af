package runs

import (
	"errors"
	"testing"

	"archivolt/api"
)

// No call may panic: even what nothing here panics with becomes an error, with no result.
func TestCall(t *testing.T) {
	for _, c := range []struct {
		ended any
		e     api.Errno
	}{{api.ErrRange, api.ErrRange}, {api.ErrForm, api.ErrForm}, {"another one", api.ErrArg}, {errors.New("another one"), api.ErrArg}, {full{}, api.ErrArg}} {
		if n, is, e := call(func() (int, bool) { panic(c.ended) }); n != 0 || is || e != c.e {
			t.Error(c, n, is, e)
		}
		if n, e := single(func() int { panic(c.ended) }); n != 0 || e != c.e {
			t.Error(c, n, e)
		}
	}
	if n, is, e := call(func() (int, bool) { return 5, true }); n != 5 || !is || e != api.OK {
		t.Error(n, is, e)
	}
	if n, e := single(func() int { return 5 }); n != 5 || e != api.OK {
		t.Error(n, e)
	}
}

// Only the end of the room is what packing goes on from; any other panic is passed on.
func TestNeedFull(t *testing.T) {
	needFull(full{})
	for _, ended := range []any{"another one", api.ErrForm} {
		if _, e := single(func() int { needFull(ended); return 0 }); e == api.OK {
			t.Error(ended)
		}
	}
}

// The widths of numbers with a sign, and without one.
func TestP4_6Numbers(t *testing.T) {
	for _, c := range []struct {
		n    uint32
		many int
	}{{0, 1}, {1, 1}, {255, 1}, {256, 2}, {1<<16 - 1, 2}, {1 << 16, 3}, {1<<24 - 1, 3}, {1 << 24, 4}, {1 << 31, 4}, {1<<32 - 1, 4}} {
		w := width(c.n)
		if w != c.many || unpacked[uint32](packed(c.n, w)) != c.n {
			t.Error(c, w)
		}
	}
	for _, c := range []struct {
		n    int32
		many int
	}{
		{0, 1}, {-1, 1}, {127, 1}, {-128, 1}, {128, 2}, {-129, 2}, {1<<15 - 1, 2}, {-1 << 15, 2}, {1 << 15, 3}, {-1<<15 - 1, 3},
		{1<<23 - 1, 3}, {-1 << 23, 3}, {1 << 23, 4}, {-1<<23 - 1, 4}, {1<<31 - 1, 4}, {-1 << 31, 4},
	} {
		w := width(c.n)
		if w != c.many || unpacked[int32](packed(c.n, w)) != c.n {
			t.Error(c, w)
		}
	}
}

// Parts of mappings, and packed runs, may be ranged over in part; parts also again.
func TestRanging(t *testing.T) {
	all := parts([]api.Run{{To: 5, Many: 2}, {To: api.RnHole, Many: 1}, {To: 7, Many: 3}}, 1, 5)
	for range 2 {
		first, many := 0, 0
		for page, r := range all {
			first += page
			many += r.Many
		}
		if first != 1+2+3 || many != 4 {
			t.Error(first, many)
		}
		for page, r := range all {
			if page != 1 || r != (api.Run{To: 6, Many: 1}) {
				t.Error(page, r)
			}
			break
		}
	}
	in := &reader{b: []byte{17, 2, 5, 1, 1, 0}}
	for r := range in.runs() {
		if r != (api.Run{To: 5, Many: 2}) {
			t.Error(r)
		}
		break
	}
	if in.at != 3 {
		t.Error(in.at)
	}
}
