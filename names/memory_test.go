package names_test

import (
	"slices"
	"testing"

	"archivolt/names"
)

// R6: lists that are arguments are not modified, also not behind their ends, and share no memory with results.
func TestR6Lists(t *testing.T) {
	all := []string{"b", "a", "B", "c", "x", "w"}
	before := slices.Clone(all)
	sorted := names.Sort(all[:4])
	names.Short("b", all[:4])
	again := names.Sort(all[:4])
	clear(sorted[:cap(sorted)])
	if !slices.Equal(all, before) || !slices.Equal(again, []string{"a", "B", "b", "c"}) {
		t.Error(all, again)
	}
	one := []string{"b"}
	clear(names.Sort(one))
	if one[0] != "b" {
		t.Error(one)
	}
}

func TestR6Units(t *testing.T) {
	all := []uint16{'a', 55357, 56832, 'b', 'c'}
	before := slices.Clone(all)
	for n := range len(all) {
		names.String(all[:n])
	}
	if !slices.Equal(all, before) {
		t.Error(all)
	}
	first, _ := names.Units("ab")
	second, _ := names.Units("ab")
	clear(first[:cap(first)])
	if !slices.Equal(second, []uint16{'a', 'b'}) {
		t.Error(second)
	}
	key, _ := names.Key("ab")
	other, _ := names.Key("ab")
	clear(key[:cap(key)])
	if string(other) != "\x00A\x00B\x00\x00\x00a\x00b" {
		t.Error(other)
	}
}
