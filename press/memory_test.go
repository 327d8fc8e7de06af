package press_test

import (
	"bytes"
	"slices"
	"testing"

	"archivolt/api"
	"archivolt/press"
)

// R6: arguments are not modified, also not behind their ends, and share no memory with results.
func TestR6Data(t *testing.T) {
	all := []byte("abcabcabxyzxyzabcabc")
	before := bytes.Clone(all)
	for _, way := range ways() {
		for n := range len(all) + 1 {
			b := all[:n]
			c := good[[]byte](t)(way(b))
			press.Longest(b, n/2)
			again := good[[]byte](t)(way(b))
			clear(c[:cap(c)])
			if !bytes.Equal(all, before) || !bytes.Equal(good[[]byte](t)(way(b)), again) || n > 0 && bytes.Equal(c, again) {
				t.Error(n, all, again)
			}
		}
	}
}

func TestR6Compressed(t *testing.T) {
	c := append(plainBuild(append(literals("abcdefgh"), copied(3, 9))), "spare"...)
	before := bytes.Clone(c)
	c = c[:len(c)-len("spare")]
	b, l := good[[]byte](t)(press.Expand(c)), good[[]api.Symbol](t)(press.Tokens(c))
	press.Size(c)
	clear(b[:cap(b)])
	clear(l[:cap(l)])
	if !bytes.Equal(c[:len(before)], before) || string(good[[]byte](t)(press.Expand(c))) != "abcdefghfghfghfgh" || len(good[[]api.Symbol](t)(press.Tokens(c))) != 9 {
		t.Error(c[:len(before)])
	}
	// An error does not leave anything behind in the bytes, either.
	for n := range len(c) {
		press.Expand(c[:n])
		press.Tokens(c[:n])
	}
	if !bytes.Equal(c[:len(before)], before) {
		t.Error(c[:len(before)])
	}
}

func TestR6Tokens(t *testing.T) {
	all := append(literals("abcdefgh"), copied(3, 9), copied(1, 2), literal('x'))
	before := slices.Clone(all)
	for n := range len(all) + 1 {
		c, _ := press.Build(all[:n])
		clear(c[:cap(c)])
	}
	if !slices.Equal(all, before) {
		t.Error(all)
	}
}
