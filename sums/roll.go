package sums

import (
	"math"

	"archivolt/api"
)

// modulus is the one of both parts of a rolling checksum: the greatest prime below 2^16.
const modulus = 65521

// Sum returns the rolling checksum of a byte sequence.
func Sum(b []byte) api.Roll {
	r := api.Roll{N: len(b)}
	for _, x := range b {
		r.A = (r.A + uint32(x)) % modulus
		r.B = (r.B + r.A) % modulus
	}
	return r
}

// Slide returns the rolling checksum of the window that begins one byte later.
func Slide(r api.Roll, out, in byte) (api.Roll, api.Errno) {
	if r.A >= modulus || r.B >= modulus || r.N < 1 || r.N > math.MaxInt32 {
		return api.Roll{}, api.ErrArg
	}
	return slide(r, out, in), api.OK
}

// slide slides a valid window that is not empty.
func slide(r api.Roll, out, in byte) api.Roll {
	a := (int(r.A) - int(out) + int(in) + modulus) % modulus
	left := r.N * int(out) % modulus
	b := (int(r.B) - left + a + modulus) % modulus
	return api.Roll{A: uint32(a), B: uint32(b), N: r.N}
}

// Value returns a rolling checksum as one word.
func Value(r api.Roll) uint32 { return r.B<<16 + r.A }

// Windows returns the rolling checksums of all windows of n bytes.
func Windows(b []byte, n int) ([]uint32, api.Errno) {
	if n < 1 {
		return nil, api.ErrArg
	}
	if n > len(b) {
		return nil, api.OK
	}
	r := Sum(b[:n])
	values := []uint32{Value(r)}
	for i, in := range b[n:] {
		r = slide(r, b[i], in)
		values = append(values, Value(r))
	}
	return values, api.OK
}
