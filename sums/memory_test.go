package sums_test

import (
	"slices"
	"testing"

	"archivolt/api"
	"archivolt/sums"
)

// R6: a sponge shares no bytes with the one before it, nor with what it absorbed.
func TestR6Sponges(t *testing.T) {
	rest, restSame := spare([]byte{1, 2, 3})
	b, same := spare([]byte{4, 5})
	long, longSame := spare(make([]byte, 13+16+5))
	old := api.Sponge{Rest: rest}
	for _, part := range [][]byte{b, long, nil} {
		s, e := sums.Absorb(old, part)
		if e != api.OK || len(s.Rest) == 0 {
			t.Fatal(s, e)
		}
		whole := append(s.Rest, 9)
		for i := range whole {
			whole[i] ^= 255
		}
	}
	if _, e := sums.End(old); e != api.OK {
		t.Error(e)
	}
	if !restSame() || !same() || !longSame() {
		t.Error("an argument was modified, or shares memory with a result")
	}
}

// R6: two sponges that grow from one do not disturb each other.
func TestR6SpongesGrowApart(t *testing.T) {
	s, _ := sums.Absorb(sums.Start(), []byte("ab"))
	x, _ := sums.Absorb(s, []byte("c"))
	y, _ := sums.Absorb(s, []byte("d"))
	d, _ := sums.End(x)
	f, _ := sums.End(y)
	if d != sums.Digest([]byte("abc")) || f != sums.Digest([]byte("abd")) {
		t.Error(x, y)
	}
	if d, _ := sums.End(s); d != sums.Digest([]byte("ab")) {
		t.Error(s)
	}
}

// R6: leaves and paths are not modified.
func TestR6Trees(t *testing.T) {
	leaf, same := spare([]byte("leaf"))
	leaves := [][]byte{leaf, leaf, []byte("c"), nil, []byte("e")}
	whole := slices.Clone(leaves)
	root, _ := sums.Root(leaves[:4])
	path, _ := sums.Prove(leaves[:4], 0)
	room := append(slices.Clone(path), api.Digest{7}, api.Digest{8})
	before := slices.Clone(room)
	if e := sums.Check(root, 4, 0, leaf, room[:2]); e != api.OK {
		t.Error(e)
	}
	sums.Collide(4, 0, leaf, room[:2], leaf, room[:2])
	again, _ := sums.Prove(leaves[:4], 0)
	path[0][0] ^= 1
	if again[0] == path[0] || !same() || !slices.Equal(room, before) || string(leaves[4]) != string(whole[4]) {
		t.Error("an argument was modified, or results share memory")
	}
}

func TestR6Bytes(t *testing.T) {
	b, same := spare([]byte("some bytes"))
	sums.Crc(b)
	sums.Sum(b)
	sums.Windows(b, 3)
	sums.Digest(b)
	if !same() {
		t.Error("an argument was modified")
	}
}
