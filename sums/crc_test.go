package sums_test

import (
	"math"
	"testing"

	"archivolt/api"
	"archivolt/sums"
)

func TestP2_1Crc(t *testing.T) {
	for _, c := range []struct {
		b    []byte
		want uint32
	}{
		{nil, 0}, {[]byte{}, 0}, {[]byte("a"), 0x9ce85463}, {[]byte("123456789"), 0x9b0230fe}, {allBytes(), 0x0e214b85},
	} {
		if got := sums.Crc(c.b); got != c.want {
			t.Errorf("%q: %x", c.b, got)
		}
	}
	r := chance()
	for range 300 {
		b := anyBytes(r, 100)
		c := ^uint32(0)
		for _, x := range b {
			c = plainStep(c, x)
		}
		if got := sums.Crc(b); got != ^c {
			t.Fatal(b, got)
		}
	}
}

func TestP2_1JoinErrors(t *testing.T) {
	for _, c := range []struct {
		n int
		e api.Errno
	}{
		{-1, api.ErrArg}, {math.MinInt, api.ErrArg}, {math.MaxInt32 + 1, api.ErrLimit}, {math.MaxInt, api.ErrLimit},
	} {
		if x, e := sums.Join(5, 7, c.n); x != 0 || e != c.e {
			t.Error(c, x, e)
		}
	}
	for _, n := range []int{0, 1, math.MaxInt32} {
		if _, e := sums.Join(5, 7, n); e != api.OK {
			t.Error(n, e)
		}
	}
}

// Join is the linear calculation also where no sequences have the checksums.
func TestP2_1Join(t *testing.T) {
	r := chance()
	for n := range 300 {
		a, b := r.Uint32(), r.Uint32()
		z := a
		for range n {
			z = plainStep(z, 0)
		}
		if x, e := sums.Join(a, b, n); x != z^b || e != api.OK {
			t.Fatal(a, b, n, x, e)
		}
	}
	for _, n := range []int{0, 1, 1000, math.MaxInt32} {
		if x, _ := sums.Join(0, 7, n); x != 7 {
			t.Error(n, x)
		}
	}
	if x, _ := sums.Join(5, 0, 0); x != 5 {
		t.Error(x)
	}
	z := uint32(1)
	for range 1<<20 + 12345 {
		z = plainStep(z, 0)
	}
	if x, _ := sums.Join(1, 0, 1<<20+12345); x != z {
		t.Error(x)
	}
}

// The greatest number of bytes is that of two halves and one.
func TestP2_1JoinMost(t *testing.T) {
	half, _ := sums.Join(1, 0, 1<<30-1)
	other, _ := sums.Join(half, 0, 1<<30-1)
	last, _ := sums.Join(other, 0, 1)
	if x, e := sums.Join(1, 0, math.MaxInt32); x != last || x == 1 || e != api.OK {
		t.Error(x, e)
	}
}

func TestP2_5Bursts(t *testing.T) {
	r := chance()
	for range 2000 {
		b := make([]byte, 4+r.Intn(60))
		r.Read(b)
		c := sums.Crc(b)
		changed := false
		at := r.Intn(len(b) - 3)
		for i := range 4 {
			x := byte(r.Intn(256) & r.Intn(256) & r.Intn(256))
			b[at+i] ^= x
			changed = changed || x > 0
		}
		if changed && sums.Crc(b) == c {
			t.Fatal(b, at)
		}
	}
	seen := map[uint32]bool{}
	for i := range 1 << 16 {
		seen[sums.Crc([]byte{3, 0, byte(i), 0, byte(i >> 8), 9})] = true
	}
	if len(seen) != 1<<16 {
		t.Error(len(seen))
	}
}

func TestP2_6Concatenation(t *testing.T) {
	r := chance()
	for range 300 {
		x, y := anyBytes(r, 50), anyBytes(r, 50)
		if c, e := sums.Join(sums.Crc(x), sums.Crc(y), len(y)); c != sums.Crc(join(x, y)) || e != api.OK {
			t.Fatal(x, y, c, e)
		}
	}
	must := func(c uint32, e api.Errno) uint32 {
		if e != api.OK {
			t.Fatal(e)
		}
		return c
	}
	for range 300 {
		a, b, c, n, m := r.Uint32(), r.Uint32(), r.Uint32(), r.Intn(1<<30), r.Intn(1<<30)
		left := must(sums.Join(must(sums.Join(a, b, n)), c, m))
		right := must(sums.Join(a, must(sums.Join(b, c, m)), n+m))
		if left != right {
			t.Fatal(a, b, c, n, m)
		}
		if must(sums.Join(a, 0, 0)) != a || must(sums.Join(0, a, n)) != a {
			t.Fatal(a, n)
		}
	}
}
