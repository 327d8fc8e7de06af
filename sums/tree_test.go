package sums_test

import (
	"math"
	"slices"
	"testing"

	"archivolt/api"
	"archivolt/sums"
)

// severalSizes are numbers of leaves: small ones, powers of 2 and their neighbours, the greatest.
func severalSizes() []int {
	sizes := []int{31, 32, 33, 100, 1023, 1025, 4095, 4096}
	for n := range 20 {
		sizes = append(sizes, n)
	}
	return sizes
}

func TestP2_4Root(t *testing.T) {
	r := chance()
	for _, n := range severalSizes() {
		leaves := anyLeaves(r, n)
		if root, e := sums.Root(leaves); root != plainNode(leaves) || e != api.OK {
			t.Error(n, root, e)
		}
	}
	a, b, c := leafDigest("a"), leafDigest("b"), leafDigest("c")
	if root, _ := sums.Root([][]byte{[]byte("a"), []byte("b"), []byte("c")}); root != pair(pair(a, b), c) {
		t.Error(root)
	}
	if root, e := sums.Root(make([][]byte, 4097)); root != (api.Digest{}) || e != api.ErrLimit {
		t.Error(root, e)
	}
}

func TestP2_4Prove(t *testing.T) {
	leaves := [][]byte{[]byte("a"), []byte("b"), []byte("c"), []byte("d"), []byte("e")}
	a, b, c, d, e := leafDigest("a"), leafDigest("b"), leafDigest("c"), leafDigest("d"), leafDigest("e")
	for i, want := range [][]api.Digest{
		{b, pair(c, d), e}, {a, pair(c, d), e}, {d, pair(a, b), e}, {c, pair(a, b), e}, {pair(pair(a, b), pair(c, d))},
	} {
		if path, e := sums.Prove(leaves, i); !slices.Equal(path, want) || e != api.OK {
			t.Error(i, path, e)
		}
	}
	if path, e := sums.Prove(leaves[:1], 0); len(path) > 0 || e != api.OK {
		t.Error(path, e)
	}
}

func TestP2_4ProveErrors(t *testing.T) {
	for _, c := range []struct {
		n, i int
		e    api.Errno
	}{
		{0, 0, api.ErrNone}, {0, -1, api.ErrNone}, {1, 1, api.ErrNone}, {3, 3, api.ErrNone}, {3, -1, api.ErrNone},
		{3, math.MaxInt, api.ErrNone}, {3, math.MinInt, api.ErrNone}, {4096, 4096, api.ErrNone},
		{4097, 0, api.ErrLimit}, {4097, 4097, api.ErrLimit}, {4097, -1, api.ErrLimit},
	} {
		if path, e := sums.Prove(make([][]byte, c.n), c.i); len(path) > 0 || e != c.e {
			t.Error(c, len(path), e)
		}
	}
}

func TestP2_4Above(t *testing.T) {
	x, y := leafDigest("x"), leafDigest("y")
	leaf := []byte("leaf")
	for _, c := range []struct {
		n, i int
		path []api.Digest
		want api.Digest
		e    api.Errno
	}{
		{1, 0, nil, leafDigest("leaf"), api.OK},
		{2, 0, []api.Digest{x}, pair(leafDigest("leaf"), x), api.OK},
		{2, 1, []api.Digest{x}, pair(x, leafDigest("leaf")), api.OK},
		{3, 2, []api.Digest{x}, pair(x, leafDigest("leaf")), api.OK},
		{3, 0, []api.Digest{x, y}, pair(pair(leafDigest("leaf"), x), y), api.OK},
		{3, 1, []api.Digest{x, y}, pair(pair(x, leafDigest("leaf")), y), api.OK},
		{3, 0, []api.Digest{x}, api.Digest{}, api.ErrProof},
		{3, 2, []api.Digest{x, y}, api.Digest{}, api.ErrProof},
		{3, 2, nil, api.Digest{}, api.ErrProof},
		{1, 0, []api.Digest{x}, api.Digest{}, api.ErrProof},
		{3, 0, []api.Digest{x, y, x}, api.Digest{}, api.ErrProof},
		{4096, 0, make([]api.Digest, 11), api.Digest{}, api.ErrProof},
		{4096, 0, make([]api.Digest, 13), api.Digest{}, api.ErrProof},
		{3, 3, []api.Digest{x, y}, api.Digest{}, api.ErrNone},
		{3, -1, nil, api.Digest{}, api.ErrNone},
		{0, 0, nil, api.Digest{}, api.ErrNone},
		{-1, 0, nil, api.Digest{}, api.ErrNone},
		{-1, -2, nil, api.Digest{}, api.ErrNone},
		{math.MinInt, math.MinInt, nil, api.Digest{}, api.ErrNone},
		{4097, 0, nil, api.Digest{}, api.ErrLimit},
		{4097, -1, nil, api.Digest{}, api.ErrLimit},
		{math.MaxInt, math.MaxInt, nil, api.Digest{}, api.ErrLimit},
	} {
		if d, e := sums.Above(c.n, c.i, leaf, c.path); d != c.want || e != c.e {
			t.Error(c, d, e)
		}
		want := c.e
		if e := sums.Check(c.want, c.n, c.i, leaf, c.path); e != want {
			t.Error(c, e)
		}
		if want == api.OK {
			want = api.ErrProof
		}
		if e := sums.Check(x, c.n, c.i, leaf, c.path); e != want {
			t.Error(c, e)
		}
	}
	if d, e := sums.Above(4096, 4095, leaf, make([]api.Digest, 12)); d == (api.Digest{}) || e != api.OK {
		t.Error(d, e)
	}
}

func TestP2_9Proofs(t *testing.T) {
	r := chance()
	for _, n := range severalSizes() {
		leaves := anyLeaves(r, n)
		root, _ := sums.Root(leaves)
		for i := range min(n, 30) {
			if n > 30 {
				i = r.Intn(n)
			}
			path, e := sums.Prove(leaves, i)
			if e != api.OK || sums.Check(root, n, i, leaves[i], path) != api.OK {
				t.Fatal(n, i, e)
			}
			other := anyBytes(r, 30)
			replaced := slices.Clone(leaves)
			replaced[i] = other
			want, _ := sums.Root(replaced)
			if d, e := sums.Above(n, i, other, path); d != want || e != api.OK {
				t.Fatal(n, i, d, e)
			}
		}
	}
}

// What differs from a proof in any part does not prove the leaf.
func TestP2_4CheckRefuses(t *testing.T) {
	r := chance()
	leaves := anyLeaves(r, 13)
	root, _ := sums.Root(leaves)
	for i, leaf := range leaves {
		path, _ := sums.Prove(leaves, i)
		for at := range path {
			wrong := slices.Clone(path)
			wrong[at][r.Intn(16)] ^= 1
			if e := sums.Check(root, 13, i, leaf, wrong); e != api.ErrProof {
				t.Error(i, at, e)
			}
		}
		if e := sums.Check(root, 13, i, append(leaf, 0), path); e != api.ErrProof {
			t.Error(i, e)
		}
		if e := sums.Check(root, 13, i^1, leaf, path); e != api.ErrProof && i != 12 || e != api.ErrNone && i == 12 {
			t.Error(i, e)
		}
	}
}

func TestP2_4CollideErrors(t *testing.T) {
	x := []api.Digest{leafDigest("x")}
	a, b := []byte("a"), []byte("b")
	for _, c := range []struct {
		n, i      int
		path, way []api.Digest
		e         api.Errno
	}{
		{4097, 0, x, x, api.ErrLimit},
		{4097, 4097, nil, x, api.ErrLimit},
		{2, 2, nil, x, api.ErrNone},
		{2, -1, x, nil, api.ErrNone},
		{0, 0, x, nil, api.ErrNone},
		{2, 0, nil, x, api.ErrProof},
		{2, 0, x, nil, api.ErrProof},
		{2, 0, x, x, api.ErrNone},
	} {
		if p, q, e := sums.Collide(c.n, c.i, a, c.path, b, c.way); len(p) > 0 || len(q) > 0 || e != c.e {
			t.Error(c, p, q, e)
		}
	}
}

// The same bytes do not collide, whether or not the roots are the same.
func TestP2_4CollideFindsNothing(t *testing.T) {
	r := chance()
	for n := 1; n < 12; n++ {
		leaves := anyLeaves(r, n)
		for i, leaf := range leaves {
			path, _ := sums.Prove(leaves, i)
			way := slices.Clone(path)
			for range 2 {
				if p, q, e := sums.Collide(n, i, leaf, path, leaf, way); len(p) > 0 || len(q) > 0 || e != api.ErrNone {
					t.Error(n, i, p, q, e)
				}
				if len(way) > 0 {
					way[r.Intn(len(way))][3] ^= 4
				}
			}
		}
	}
}
