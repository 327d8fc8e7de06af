package bits_test

import (
	"bytes"
	"slices"
	"testing"

	"archivolt/api"
	"archivolt/bits"
)

// spare returns b with more bytes behind its end, up to its capacity, and a function that reports whether all of them are as they were.
func spare(b []byte) ([]byte, func() bool) {
	whole := slices.Concat(b, []byte{77, 77, 77, 77})
	before := slices.Clone(whole)
	return whole[:len(b)], func() bool { return bytes.Equal(whole, before) }
}

// R6: bitmaps that are arguments are not modified, also not behind their ends, and share no memory with results.
func TestR6Bitmaps(t *testing.T) {
	x, xSame := spare(one().B)
	y, ySame := spare([]byte{6, 0})
	a, b := api.Bits{N: 12, B: x}, api.Bits{N: 12, B: y}
	for i, made := range []func() (api.Bits, api.Errno){
		func() (api.Bits, api.Errno) { return bits.From(12, x) },
		func() (api.Bits, api.Errno) { return bits.Set(a, 3, 7, true) },
		func() (api.Bits, api.Errno) { return bits.Set(a, 0, 12, false) },
		func() (api.Bits, api.Errno) { return bits.Set(a, 4, 0, true) },
		func() (api.Bits, api.Errno) { return bits.Resize(a, 12) },
		func() (api.Bits, api.Errno) { return bits.Resize(a, 6) },
		func() (api.Bits, api.Errno) { return bits.Resize(a, 30) },
		func() (api.Bits, api.Errno) { return bits.And(a, b) },
		func() (api.Bits, api.Errno) { return bits.Or(a, b) },
		func() (api.Bits, api.Errno) { return bits.Minus(a, b) },
		func() (api.Bits, api.Errno) { return bits.And(a, a) },
		func() (api.Bits, api.Errno) { return bits.Not(a) },
		func() (api.Bits, api.Errno) { return bits.New(12) },
	} {
		first, e := made()
		if e != api.OK {
			t.Fatal(i, e)
		}
		second, _ := made()
		before := slices.Clone(second.B)
		whole := append(first.B, 0)
		for j := range whole {
			whole[j] ^= 255
		}
		for j := range first.B {
			first.B[j] = 99
		}
		if !slices.Equal(second.B, before) {
			t.Error(i, "two results share memory")
		}
		if !xSame() || !ySame() {
			t.Fatal(i, "an argument was modified, or shares memory with a result")
		}
	}
}

// R6: what only reads a bitmap leaves it, and each list of ranges is a new one.
func TestR6Ranges(t *testing.T) {
	x, same := spare(one().B)
	b := api.Bits{N: 12, B: x}
	bits.Check(b)
	bits.Get(b, 3)
	bits.Count(b, 0, 12)
	bits.Find(b, 2, api.FindNext, 10)
	bits.Gather(b, 4, 0)
	for i, list := range []func() ([]api.Range, api.Errno){
		func() ([]api.Range, api.Errno) { return bits.Runs(b, true) },
		func() ([]api.Range, api.Errno) { return bits.Gather(b, 7, 0) },
	} {
		first, _ := list()
		second, _ := list()
		before := slices.Clone(second)
		clear(first)
		if len(second) == 0 || !slices.Equal(second, before) {
			t.Error(i, second)
		}
	}
	if !same() {
		t.Error("an argument was modified")
	}
}
