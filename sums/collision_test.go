package sums

import (
	"testing"

	"archivolt/api"
)

// Nobody knows two sequences with the same digest, so that the nodes of these proofs are forged.
func TestP2_10Binding(t *testing.T) {
	same := api.Digest{1}
	n := func(input string, d api.Digest) node { return node{d, []byte(input)} }
	for _, c := range []struct {
		nodes, others []node
		a, b          string
		e             api.Errno
	}{
		{[]node{n("p", same)}, []node{n("q", same)}, "p", "q", api.OK},
		{[]node{n("q", same)}, []node{n("p", same)}, "q", "p", api.OK},
		{[]node{n("p", same)}, []node{n("p", same)}, "", "", api.ErrNone},
		{[]node{n("p", same)}, []node{n("q", api.Digest{2})}, "", "", api.ErrNone},
		{[]node{n("a", api.Digest{1}), n("p", same)}, []node{n("b", api.Digest{2}), n("q", same)}, "p", "q", api.OK},
		{[]node{n("a", same), n("p", same)}, []node{n("b", same), n("q", same)}, "a", "b", api.OK},
		{[]node{n("a", same), n("p", api.Digest{2})}, []node{n("b", api.Digest{2}), n("q", same)}, "", "", api.ErrNone},
		{[]node{n("p", same), n("a", api.Digest{3})}, []node{n("q", same), n("b", api.Digest{4})}, "p", "q", api.OK},
	} {
		a, b, e := collision(c.nodes, c.others)
		if string(a) != c.a || string(b) != c.b || e != c.e {
			t.Errorf("%v: %q, %q, %d", c, a, b, e)
		}
	}
}

// The inputs of the nodes are what their digests are of, at each height, so that a collision is found where it is.
func TestP2_10Inputs(t *testing.T) {
	path := []api.Digest{Digest([]byte("x")), Digest([]byte("y")), Digest([]byte("z"))}
	nodes, e := nodesOf(7, 2, []byte("leaf"), path)
	if len(nodes) != 4 || e != api.OK {
		t.Fatal(nodes, e)
	}
	inner := func(a, b api.Digest) string { return "\x01" + string(a[:]) + string(b[:]) }
	for h, want := range []string{
		"\x00leaf", inner(nodes[0].Digest, path[0]), inner(path[1], nodes[1].Digest), inner(nodes[2].Digest, path[2]),
	} {
		if string(nodes[h].input) != want || nodes[h].Digest != Digest([]byte(want)) {
			t.Errorf("%d: %v", h, nodes[h])
		}
	}
}

// Blocks may be ranged over in part, and again.
func TestBlocks(t *testing.T) {
	all := blocks(make([]byte, 50))
	for range 2 {
		many := 0
		for b := range all {
			many++
			if len(b) != 16 {
				t.Error(len(b))
			}
		}
		if many != 3 {
			t.Error(many)
		}
		for range all {
			break
		}
	}
}

func TestWords(t *testing.T) {
	b := []byte{1, 2, 3, 4, 5, 6, 7, 8, 9}
	if load[uint8](b) != 1 || load[uint16](b) != 0x0201 || load[uint32](b) != 0x04030201 || load[uint64](b) != 0x0807060504030201 {
		t.Error("load")
	}
	store(b[1:], uint32(0xa4a3a2a1))
	if string(b) != "\x01\xa1\xa2\xa3\xa4\x06\x07\x08\x09" {
		t.Error(b)
	}
}
