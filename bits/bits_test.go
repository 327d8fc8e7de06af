package bits_test

import (
	"bytes"
	"math"
	"testing"

	"archivolt/api"
	"archivolt/bits"
)

func TestP3_1Check(t *testing.T) {
	for _, b := range []api.Bits{
		{}, {B: []byte{}}, one(), {N: 1, B: []byte{1}}, {N: 7, B: []byte{127}}, {N: 8, B: []byte{255}}, {N: 9, B: []byte{255, 1}},
		{N: api.MaxBits, B: bytes.Repeat([]byte{255}, api.MaxBits/8)},
		{N: api.MaxBits - 1, B: make([]byte, api.MaxBits/8)},
	} {
		if e := bits.Check(b); e != api.OK {
			t.Error(b.N, e)
		}
	}
	for _, b := range invalid() {
		if e := bits.Check(b); e != api.ErrBad {
			t.Error(b.N, e)
		}
	}
}

// Each single bit behind the last one makes a bitmap invalid, none ahead of it does.
func TestP3_1SpareBits(t *testing.T) {
	for n := 1; n <= 16; n++ {
		for i := range (n + 7) / 8 * 8 {
			b := api.Bits{N: n, B: make([]byte, (n+7)/8)}
			b.B[i/8] = 1 << (i % 8)
			want := api.OK
			if i >= n {
				want = api.ErrBad
			}
			if e := bits.Check(b); e != want {
				t.Error(n, i, e)
			}
		}
	}
}

func TestP3_1New(t *testing.T) {
	for _, n := range severalSizes() {
		b, e := bits.New(n)
		if !same(b, pack(make([]bool, n))) || e != api.OK || bits.Check(b) != api.OK {
			t.Error(n, e)
		}
	}
	for _, n := range []int{-1, math.MinInt, api.MaxBits + 1, math.MaxInt} {
		if b, e := bits.New(n); !none(b) || e != api.ErrArg {
			t.Error(n, e)
		}
	}
}

func TestP3_1From(t *testing.T) {
	for _, b := range []api.Bits{{}, one(), {N: 8, B: []byte{255}}, {N: api.MaxBits, B: bytes.Repeat([]byte{7}, api.MaxBits/8)}} {
		if c, e := bits.From(b.N, b.B); !same(b, c) || e != api.OK {
			t.Error(b.N, e)
		}
	}
	for _, c := range []struct {
		n int
		b []byte
		e api.Errno
	}{
		{-1, nil, api.ErrArg}, {-1, []byte{1}, api.ErrArg}, {math.MinInt, nil, api.ErrArg}, {math.MaxInt, nil, api.ErrArg},
		{api.MaxBits + 1, make([]byte, api.MaxBits/8+1), api.ErrArg},
		{3, []byte{8}, api.ErrForm}, {3, nil, api.ErrForm}, {3, []byte{1, 0}, api.ErrForm}, {0, []byte{0}, api.ErrForm}, {12, []byte{35, 128}, api.ErrForm},
		{api.MaxBits, make([]byte, api.MaxBits/8-1), api.ErrForm},
	} {
		if b, e := bits.From(c.n, c.b); !none(b) || e != c.e {
			t.Error(c.n, e)
		}
	}
}

func TestP3_2Get(t *testing.T) {
	for _, n := range severalSizes() {
		l := anyBools(chance(), n)
		b := pack(l)
		for at, want := range l {
			if on, e := bits.Get(b, at); on != want || e != api.OK {
				t.Fatal(n, at, on, e)
			}
		}
		for _, at := range []int{-1, math.MinInt, n, n + 1, math.MaxInt} {
			if on, e := bits.Get(b, at); on || e != api.ErrArg {
				t.Error(n, at, on, e)
			}
		}
	}
}

func TestP3_2Set(t *testing.T) {
	for _, c := range []struct {
		at, many int
		on       bool
		want     string
	}{
		{3, 4, true, "\x7b\x08"}, {0, 12, true, "\xff\x0f"}, {0, 12, false, "\x00\x00"}, {1, 5, false, "\x01\x08"},
		{6, 4, true, "\xe3\x0b"}, {11, 1, false, "\x23\x00"}, {0, 8, true, "\xff\x08"}, {8, 4, true, "\x23\x0f"},
		{0, 0, true, "\x23\x08"}, {4, 0, true, "\x23\x08"}, {8, 0, false, "\x23\x08"}, {12, 0, true, "\x23\x08"},
	} {
		if b, e := bits.Set(one(), c.at, c.many, c.on); b.N != 12 || string(b.B) != c.want || e != api.OK {
			t.Errorf("%v: %v, %d", c, b, e)
		}
	}
	if b, e := bits.Set(api.Bits{}, 0, 0, true); !none(b) || e != api.OK {
		t.Error(b, e)
	}
}

func TestP3_2Count(t *testing.T) {
	for _, c := range []struct{ at, many, want int }{
		{1, 5, 2}, {0, 12, 4}, {0, 0, 0}, {12, 0, 0}, {11, 1, 1}, {0, 8, 3}, {8, 4, 1}, {2, 3, 0}, {5, 7, 2},
	} {
		if n, e := bits.Count(one(), c.at, c.many); n != c.want || e != api.OK {
			t.Error(c, n, e)
		}
	}
	for x := range 256 {
		want := 0
		for i := range 8 {
			want += x >> i & 1
		}
		if n, e := bits.Count(api.Bits{N: 8, B: []byte{byte(x)}}, 0, 8); n != want || e != api.OK {
			t.Error(x, n, e)
		}
	}
}

func TestP3_2RangesThatDoNotLieThere(t *testing.T) {
	for _, c := range []struct{ at, many int }{
		{-1, 0}, {-1, 1}, {-1, 2}, {0, -1}, {5, -1}, {12, 1}, {13, 0}, {9, 4}, {0, 13}, {13, -1}, {14, -2},
		{math.MaxInt, 1}, {1, math.MaxInt}, {math.MaxInt, math.MaxInt}, {math.MinInt, 0}, {0, math.MinInt}, {math.MinInt, math.MinInt}, {math.MinInt, math.MaxInt},
	} {
		for _, on := range []bool{false, true} {
			if b, e := bits.Set(one(), c.at, c.many, on); !none(b) || e != api.ErrArg {
				t.Error(c, b, e)
			}
		}
		if n, e := bits.Count(one(), c.at, c.many); n != 0 || e != api.ErrArg {
			t.Error(c, n, e)
		}
	}
}

func TestP3_3Resize(t *testing.T) {
	for _, c := range []struct {
		n    int
		want string
	}{
		{0, ""}, {1, "\x01"}, {5, "\x03"}, {6, "\x23"}, {8, "\x23"}, {9, "\x23\x00"}, {11, "\x23\x00"}, {12, "\x23\x08"}, {13, "\x23\x08"}, {16, "\x23\x08"}, {17, "\x23\x08\x00"},
	} {
		if b, e := bits.Resize(one(), c.n); b.N != c.n || string(b.B) != c.want || e != api.OK {
			t.Error(c, b, e)
		}
	}
	for _, n := range []int{-1, math.MinInt, api.MaxBits + 1, math.MaxInt} {
		if b, e := bits.Resize(one(), n); !none(b) || e != api.ErrArg {
			t.Error(n, b, e)
		}
	}
	r := chance()
	for range 300 {
		l := anyBools(r, r.Intn(100))
		n := r.Intn(100)
		want := make([]bool, n)
		copy(want, l)
		if b, e := bits.Resize(pack(l), n); !same(b, pack(want)) || e != api.OK {
			t.Fatal(l, n, b, e)
		}
	}
}

func TestP3_4Joining(t *testing.T) {
	r := chance()
	for _, n := range severalSizes() {
		l, m := anyBools(r, n), anyBools(r, n)
		var and, or, minus, not []bool
		for i, x := range l {
			and = append(and, x && m[i])
			or = append(or, x || m[i])
			minus = append(minus, x && !m[i])
			not = append(not, !x)
		}
		a, b := pack(l), pack(m)
		check := func(name string, want []bool) func(api.Bits, api.Errno) {
			return func(got api.Bits, e api.Errno) {
				if !same(got, pack(want)) || e != api.OK {
					t.Error(name, n, e)
				}
			}
		}
		check("and", and)(bits.And(a, b))
		check("or", or)(bits.Or(a, b))
		check("minus", minus)(bits.Minus(a, b))
		check("not", not)(bits.Not(a))
	}
}

type joiner func(a, b api.Bits) (api.Bits, api.Errno)

func joiners() []joiner { return []joiner{bits.And, bits.Or, bits.Minus} }

func TestP3_4Sizes(t *testing.T) {
	for i, join := range joiners() {
		for _, other := range []api.Bits{{}, {N: 3, B: []byte{1}}, {N: 11, B: []byte{1, 0}}, {N: 13, B: []byte{1, 0}}, {N: 20, B: []byte{1, 0, 0}}} {
			if b, e := join(one(), other); !none(b) || e != api.ErrArg {
				t.Error(i, other, b, e)
			}
			if b, e := join(other, one()); !none(b) || e != api.ErrArg {
				t.Error(i, other, b, e)
			}
		}
	}
}

// A bitmap that is not valid is the first error of each call, whatever else is wrong.
func TestErrBadFirst(t *testing.T) {
	for _, bad := range invalid() {
		bitmap := func(b api.Bits, e api.Errno) {
			t.Helper()
			if !none(b) || e != api.ErrBad {
				t.Error(bad.N, b, e)
			}
		}
		number := func(n int, e api.Errno) {
			t.Helper()
			if n != 0 || e != api.ErrBad {
				t.Error(bad.N, n, e)
			}
		}
		ranges := func(l []api.Range, e api.Errno) {
			t.Helper()
			if len(l) != 0 || e != api.ErrBad {
				t.Error(bad.N, l, e)
			}
		}
		for _, at := range []int{0, -1} {
			if on, e := bits.Get(bad, at); on || e != api.ErrBad {
				t.Error(bad.N, on, e)
			}
			bitmap(bits.Set(bad, at, 1, true))
			number(bits.Count(bad, at, 1))
			bitmap(bits.Resize(bad, at))
			number(bits.Find(bad, 1, api.FindFirst, at))
			number(bits.Find(bad, at, 7, 0))
			ranges(bits.Gather(bad, 1, at))
			ranges(bits.Gather(bad, at, 0))
		}
		for _, join := range joiners() {
			bitmap(join(bad, one()))
			bitmap(join(one(), bad))
			bitmap(join(bad, bad))
		}
		bitmap(bits.Not(bad))
		ranges(bits.Runs(bad, true))
		ranges(bits.Runs(bad, false))
	}
}
