package sums_test

import (
	"bytes"
	"math"
	"slices"
	"testing"

	"archivolt/api"
	"archivolt/sums"
)

func TestP2_2Sum(t *testing.T) {
	for _, c := range []struct {
		b    []byte
		want api.Roll
	}{
		{nil, api.Roll{}},
		{[]byte{0}, api.Roll{N: 1}},
		{[]byte{1, 2, 3}, api.Roll{A: 6, B: 10, N: 3}},
		{[]byte{255}, api.Roll{A: 255, B: 255, N: 1}},
		// 65521 is 256 times 255 and 241.
		{append(bytes.Repeat([]byte{255}, 256), 241), plainSum(append(bytes.Repeat([]byte{255}, 256), 241))},
		{bytes.Repeat([]byte{255}, 70000), plainSum(bytes.Repeat([]byte{255}, 70000))},
	} {
		if got := sums.Sum(c.b); got != c.want {
			t.Error(len(c.b), got, c.want)
		}
	}
	if r := sums.Sum(append(bytes.Repeat([]byte{255}, 256), 241)); r.A != 0 {
		t.Error(r)
	}
	r := chance()
	for range 300 {
		if b := anyBytes(r, 1000); sums.Sum(b) != plainSum(b) {
			t.Fatal(b)
		}
	}
}

func TestP2_2SlideErrors(t *testing.T) {
	for _, r := range []api.Roll{
		{}, {A: 1, B: 1},
		{A: 65521, N: 1}, {A: math.MaxUint32, N: 1}, {B: 65521, N: 1}, {B: math.MaxUint32, N: 1},
		{N: -1}, {N: math.MinInt}, {N: 1 << 31}, {N: math.MaxInt},
	} {
		if s, e := sums.Slide(r, 1, 2); s != (api.Roll{}) || e != api.ErrArg {
			t.Error(r, s, e)
		}
	}
	for _, r := range []api.Roll{{N: 1}, {A: 65520, B: 65520, N: 1}, {N: math.MaxInt32}} {
		if _, e := sums.Slide(r, 1, 2); e != api.OK {
			t.Error(r, e)
		}
	}
}

// Slide is the calculation also where no sequence has the checksum, or the byte was not in it.
func TestP2_2Slide(t *testing.T) {
	if s, _ := sums.Slide(api.Roll{A: 6, B: 10, N: 3}, 1, 4); s != (api.Roll{A: 9, B: 16, N: 3}) {
		t.Error(s)
	}
	plain := func(r api.Roll, out, in int) api.Roll {
		a := (int(r.A) + 65521 - out + in) % 65521
		b := (int(r.B) - r.N*out + a) % 65521
		return api.Roll{A: uint32(a), B: uint32((b + 65521) % 65521), N: r.N}
	}
	rolls := []api.Roll{{N: 1}, {A: 65520, B: 65520, N: 1}, {A: 65520, B: 65520, N: math.MaxInt32}, {N: math.MaxInt32}, {A: 254, B: 1, N: 257}}
	r := chance()
	for range 300 {
		rolls = append(rolls, api.Roll{A: uint32(r.Intn(65521)), B: uint32(r.Intn(65521)), N: 1 + r.Intn(math.MaxInt32)})
	}
	for _, x := range rolls {
		for _, out := range []int{0, 1, 128, 255} {
			for _, in := range []int{0, 1, 255} {
				if s, e := sums.Slide(x, byte(out), byte(in)); s != plain(x, out, in) || e != api.OK {
					t.Error(x, out, in, s, e)
				}
			}
		}
	}
}

func TestP2_2Value(t *testing.T) {
	for _, c := range []struct {
		r    api.Roll
		want uint32
	}{
		{api.Roll{}, 0},
		{api.Roll{A: 6, B: 10, N: 3}, 655366},
		{api.Roll{A: 6, B: 10, N: -3}, 655366},
		{api.Roll{A: 65520, B: 65520}, 65520*65536 + 65520},
		{api.Roll{B: 65537}, 65536},
		{api.Roll{A: 65536, B: 1}, 131072},
		{api.Roll{A: math.MaxUint32, B: 1}, 65535},
	} {
		if v := sums.Value(c.r); v != c.want {
			t.Error(c, v)
		}
	}
}

func TestP2_2Windows(t *testing.T) {
	for _, c := range []struct {
		b    []byte
		n    int
		want []uint32
		e    api.Errno
	}{
		{[]byte{1, 2, 3, 4}, 3, []uint32{655366, 1048585}, api.OK},
		{[]byte{1, 2}, 1, []uint32{65537, 131074}, api.OK},
		{[]byte{1, 2}, 2, []uint32{4*65536 + 3}, api.OK},
		{[]byte{1, 2}, 3, nil, api.OK},
		{nil, 1, nil, api.OK},
		{[]byte{1}, math.MaxInt, nil, api.OK},
		{[]byte{1, 2}, 0, nil, api.ErrArg},
		{nil, -1, nil, api.ErrArg},
		{[]byte{1, 2}, math.MinInt, nil, api.ErrArg},
	} {
		if w, e := sums.Windows(c.b, c.n); !slices.Equal(w, c.want) || e != c.e {
			t.Error(c, w, e)
		}
	}
}

func TestP2_2WindowsHaveTheirChecksums(t *testing.T) {
	r := chance()
	for range 100 {
		b := anyBytes(r, 700)
		if r.Intn(2) == 0 {
			b = bytes.Repeat([]byte{255}, len(b))
		}
		n := 1 + r.Intn(400)
		w, e := sums.Windows(b, n)
		if e != api.OK || len(w) != max(0, len(b)-n+1) {
			t.Fatal(len(b), n, len(w), e)
		}
		for i, v := range w {
			if v != sums.Value(plainSum(b[i:i+n])) {
				t.Fatal(b, n, i, v)
			}
		}
	}
}
