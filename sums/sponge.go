package sums

import (
	"bytes"
	"iter"
	"math/bits"
	"slices"

	"archivolt/api"
)

const (
	rounds     = 12
	roundWord  = 0x9E3779B9 // what the rounds differ by
	block      = 16         // bytes that are absorbed at once
	word       = 4          // bytes
	startWord  = 0x61726368 // the last word of the initial sponge
	endOfBytes = 128        // what is absorbed behind a sequence
)

// Permute applies the permutation.
func Permute(s [8]uint32) [8]uint32 {
	for r := range uint32(rounds) {
		s[0] ^= (r + 1) * roundWord
		for i := range 4 {
			a := s[i] + s[i+4]
			s[i+4] = bits.RotateLeft32(s[i+4], 7) ^ a
			s[i] = bits.RotateLeft32(a, 16)
		}
		s[4], s[5], s[6], s[7] = s[5], s[6], s[7], s[4]
	}
	return s
}

// Undo applies the inverse of the permutation.
func Undo(s [8]uint32) [8]uint32 {
	for r := range uint32(rounds) {
		s[5], s[6], s[7], s[4] = s[4], s[5], s[6], s[7]
		for i := range 4 {
			a := bits.RotateLeft32(s[i], -16)
			s[i+4] = bits.RotateLeft32(s[i+4]^a, -7)
			s[i] = a - s[i+4]
		}
		s[0] ^= (rounds - r) * roundWord
	}
	return s
}

// sponge is an api.Sponge that takes bytes.
type sponge struct {
	api.Sponge
}

func start() *sponge {
	s := &sponge{}
	s.State[7] = startWord
	return s
}

// Start returns the initial sponge.
func Start() api.Sponge { return start().Sponge }

// Absorb appends bytes to what a sponge has absorbed.
func Absorb(s api.Sponge, b []byte) (api.Sponge, api.Errno) {
	if len(s.Rest) >= block {
		return api.Sponge{}, api.ErrArg
	}
	t := &sponge{s}
	t.absorb(b)
	return t.Sponge, api.OK
}

// absorb gives the sponge a rest of its own: what was the rest stays as it is.
func (s *sponge) absorb(b []byte) {
	all := slices.Concat(s.Rest, b)
	for part := range blocks(all) {
		for i := range block / word {
			s.State[i] ^= load[uint32](part[i*word:])
		}
		s.State = Permute(s.State)
	}
	s.Rest = bytes.Clone(all[len(all)-len(all)%block:])
}

// blocks yields the complete blocks of bytes.
func blocks(b []byte) iter.Seq[[]byte] {
	return func(yield func([]byte) bool) {
		for at := 0; at+block <= len(b); at += block {
			if !yield(b[at : at+block]) {
				return
			}
		}
	}
}

// unsigned are the types of words.
type unsigned interface {
	~uint8 | ~uint16 | ~uint32 | ~uint64
}

// load reads a word of the first bytes.
func load[W unsigned](b []byte) W {
	var w W
	for i := range sizeOf[W]() {
		w |= W(b[i]) << (8 * i)
	}
	return w
}

// store writes a word to the first bytes.
func store[W unsigned](b []byte, w W) {
	for i := range sizeOf[W]() {
		b[i] = byte(w >> (8 * i))
	}
}

func sizeOf[W unsigned]() int { return bits.Len64(uint64(^W(0))) / 8 }

// End returns the digest of what a sponge has absorbed.
func End(s api.Sponge) (api.Digest, api.Errno) {
	if len(s.Rest) >= block {
		return api.Digest{}, api.ErrArg
	}
	return (&sponge{s}).end(), api.OK
}

func (s *sponge) end() api.Digest {
	last := make([]byte, block-len(s.Rest))
	last[0] = endOfBytes
	s.absorb(last)
	var d api.Digest
	for i := range block / word {
		store(d[i*word:], s.State[i])
	}
	return d
}

// Digest returns the digest of a byte sequence.
func Digest(b []byte) api.Digest {
	s := start()
	s.absorb(b)
	return s.end()
}
