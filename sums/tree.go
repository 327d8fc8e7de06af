package sums

import (
	"bytes"
	"math/bits"
	"slices"

	"archivolt/api"
)

// The first bytes of what the nodes of a tree are digests of.
const (
	leafHead  = 0
	innerHead = 1
	emptyHead = 2
)

// node is a node of a digest tree: a digest with the bytes that it belongs to.
type node struct {
	api.Digest
	input []byte
}

func newNode(parts ...[]byte) node {
	input := slices.Concat(parts...)
	return node{Digest(input), input}
}

func leafNode(leaf []byte) node { return newNode([]byte{leafHead}, leaf) }

func innerNode(left, right api.Digest) node {
	return newNode([]byte{innerHead}, left[:], right[:])
}

// firstPart returns how many of n > 1 leaves are below the left one of the two nodes: the greatest power of 2 below n.
func firstPart(n int) int { return 1 << (bits.Len(uint(n-1)) - 1) }

// Root returns the root of the digest tree of some leaves.
func Root(leaves [][]byte) (api.Digest, api.Errno) {
	if len(leaves) > api.MaxLeaves {
		return api.Digest{}, api.ErrLimit
	}
	if len(leaves) == 0 {
		return Digest([]byte{emptyHead}), api.OK
	}
	return root(leaves).Digest, api.OK
}

// root returns the node of one or more leaves.
func root(leaves [][]byte) node {
	if len(leaves) == 1 {
		return leafNode(leaves[0])
	}
	k := firstPart(len(leaves))
	return innerNode(root(leaves[:k]).Digest, root(leaves[k:]).Digest)
}

// Prove returns the path of a leaf.
func Prove(leaves [][]byte, i int) ([]api.Digest, api.Errno) {
	if len(leaves) > api.MaxLeaves {
		return nil, api.ErrLimit
	}
	if i < 0 || i >= len(leaves) {
		return nil, api.ErrNone
	}
	var path []api.Digest
	for len(leaves) > 1 {
		k := firstPart(len(leaves))
		other := leaves[k:]
		if i >= k {
			other = leaves[:k]
			leaves, i = leaves[k:], i-k
		} else {
			leaves = leaves[:k]
		}
		path = append(path, root(other).Digest)
	}
	slices.Reverse(path)
	return path, api.OK
}

// wrongLength is what climb panics with.
type wrongLength struct{}

// climb returns the nodes from a leaf up to the root of a tree of n leaves, the lowest one first.
func climb(n, i int, leaf []byte, path []api.Digest) []node {
	if n == 1 {
		if len(path) > 0 {
			panic(wrongLength{})
		}
		return []node{leafNode(leaf)}
	}
	if len(path) == 0 {
		panic(wrongLength{})
	}
	below, other := path[:len(path)-1], path[len(path)-1]
	k := firstPart(n)
	if i < k {
		nodes := climb(k, i, leaf, below)
		return append(nodes, innerNode(nodes[len(nodes)-1].Digest, other))
	}
	nodes := climb(n-k, i-k, leaf, below)
	return append(nodes, innerNode(other, nodes[len(nodes)-1].Digest))
}

// nodesOf returns what climb returns, or the error of Above.
func nodesOf(n, i int, leaf []byte, path []api.Digest) (nodes []node, e api.Errno) {
	if n > api.MaxLeaves {
		return nil, api.ErrLimit
	}
	if i < 0 || i >= n {
		return nil, api.ErrNone
	}
	defer func() {
		if recover() != nil {
			nodes, e = nil, api.ErrProof
		}
	}()
	return climb(n, i, leaf, path), api.OK
}

// Above returns the root of a tree by one of its leaves and the path of this.
func Above(n, i int, leaf []byte, path []api.Digest) (api.Digest, api.Errno) {
	nodes, e := nodesOf(n, i, leaf, path)
	if e != api.OK {
		return api.Digest{}, e
	}
	return nodes[len(nodes)-1].Digest, api.OK
}

// Check returns ErrProof if a path does not prove a leaf.
func Check(root api.Digest, n, i int, leaf []byte, path []api.Digest) api.Errno {
	above, e := Above(n, i, leaf, path)
	if e == api.OK && above != root {
		return api.ErrProof
	}
	return e
}

// Collide returns two sequences with the same digest, found by two proofs at the same index.
func Collide(n, i int, leaf []byte, path []api.Digest, other []byte, way []api.Digest) ([]byte, []byte, api.Errno) {
	nodes, e := nodesOf(n, i, leaf, path)
	if e != api.OK {
		return nil, nil, e
	}
	others, e := nodesOf(n, i, other, way)
	if e != api.OK {
		return nil, nil, e
	}
	return collision(nodes, others)
}

// collision returns what the lowest nodes that collide are digests of.
func collision(nodes, others []node) ([]byte, []byte, api.Errno) {
	for h, x := range nodes {
		y := others[h]
		if x.Digest == y.Digest && !bytes.Equal(x.input, y.input) {
			return x.input, y.input, api.OK
		}
	}
	return nil, nil, api.ErrNone
}
