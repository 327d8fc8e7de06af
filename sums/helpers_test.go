package sums_test

import (
	"bytes"
	"encoding/hex"
	"math/rand"
	"slices"

	"archivolt/api"
	"archivolt/sums"
)

// chance returns a source of numbers that are the same in each run.
func chance() *rand.Rand { return rand.New(rand.NewSource(1)) }

func anyBytes(r *rand.Rand, most int) []byte {
	b := make([]byte, r.Intn(most+1))
	r.Read(b)
	return b
}

func anyWords(r *rand.Rand) (s [8]uint32) {
	for i := range s {
		s[i] = r.Uint32()
	}
	return s
}

func join(parts ...[]byte) []byte { return bytes.Join(parts, nil) }

// spare returns b with more bytes behind its end, up to its capacity, and a function that reports whether all of them are as they were.
func spare(b []byte) ([]byte, func() bool) {
	whole := join(b, bytes.Repeat([]byte{77}, 40))
	before := slices.Clone(whole)
	return whole[:len(b)], func() bool { return bytes.Equal(whole, before) }
}

func allBytes() []byte {
	b := make([]byte, 256)
	for i := range b {
		b[i] = byte(i)
	}
	return b
}

// digest returns a digest by its digits.
func digest(digits string) (d api.Digest) {
	b, err := hex.DecodeString(digits)
	if err != nil || len(b) != len(d) {
		panic("no digest")
	}
	copy(d[:], b)
	return d
}

// plainStep is the step of the register as the chapter tells it.
func plainStep(c uint32, x byte) uint32 {
	c ^= uint32(x)
	for range 8 {
		odd := c%2 == 1
		c /= 2
		if odd {
			c ^= 0xC1DE5A17
		}
	}
	return c
}

// plainSum is the rolling checksum as the chapter tells it.
func plainSum(b []byte) api.Roll {
	sum, weighed := 0, 0
	for i, x := range b {
		sum += int(x)
		weighed += (len(b) - i) * int(x)
	}
	return api.Roll{A: uint32(sum % 65521), B: uint32(weighed % 65521), N: len(b)}
}

// plainNode is the node of a list of leaves as the chapter tells it.
func plainNode(leaves [][]byte) api.Digest {
	switch len(leaves) {
	case 0:
		return sums.Digest([]byte{2})
	case 1:
		return sums.Digest(join([]byte{0}, leaves[0]))
	}
	k := 1
	for 2*k < len(leaves) {
		k *= 2
	}
	return pair(plainNode(leaves[:k]), plainNode(leaves[k:]))
}

func leafDigest(leaf string) api.Digest { return sums.Digest([]byte("\x00" + leaf)) }

func pair(a, b api.Digest) api.Digest { return sums.Digest(join([]byte{1}, a[:], b[:])) }

func anyLeaves(r *rand.Rand, many int) [][]byte {
	leaves := make([][]byte, many)
	for i := range leaves {
		leaves[i] = anyBytes(r, 20)
	}
	return leaves
}
