package span

import (
	"iter"
	"slices"
	"testing"

	"archivolt/api"
)

// Each kind is there, and no other one.
func TestKinds(t *testing.T) {
	l := kinds(reckon(api.Layout{Kind: api.SpPlain, Members: []int{4, 5, 6}, Chunk: 3}))
	for kind := api.SpPlain; kind <= api.SpParity; kind++ {
		if l[kind] == nil {
			t.Error(kind)
		}
	}
	if len(l) != 5 {
		t.Error(len(l))
	}
}

func TestReckon(t *testing.T) {
	for _, c := range []struct {
		chunk   int
		members []int
		least   int
		whole   int
	}{{1, []int{4, 5}, 4, 4}, {3, []int{9, 8, 10}, 8, 6}, {4, []int{3}, 3, 0}, {4, []int{4}, 4, 4}} {
		a := reckon(api.Layout{Members: c.members, Chunk: c.chunk})
		if a.many != len(c.members) || a.least != c.least || a.whole != c.whole {
			t.Error(c, a)
		}
	}
}

// ranged checks that what is yielded may be ranged over in part, and again.
func ranged[T comparable](t *testing.T, l iter.Seq[T]) {
	t.Helper()
	whole := slices.Collect(l)
	for end := range len(whole) + 1 {
		var part []T
		for x := range l {
			if len(part) == end {
				break
			}
			part = append(part, x)
		}
		if !slices.Equal(part, whole[:end]) {
			t.Error(end, part, whole)
		}
	}
}

func TestRanging(t *testing.T) {
	for _, l := range []api.Layout{
		{Kind: api.SpPlain, Members: []int{7}, Chunk: 2},
		{Kind: api.SpConcat, Members: []int{7, 3}, Chunk: 2},
		{Kind: api.SpStripe, Members: []int{7, 3}, Chunk: 2},
		{Kind: api.SpMirror, Members: []int{7, 3, 4}, Chunk: 2},
		{Kind: api.SpParity, Members: []int{7, 5, 4, 6}, Chunk: 2},
	} {
		v, valid := volumeOf(l)
		if !valid {
			t.Fatal(l)
		}
		for page := range v.size() {
			ranged(t, v.spots(page))
			ranged(t, v.row(page))
			for s := range v.spots(page) {
				ranged(t, v.peers(s))
			}
		}
		for region := range v.regions() {
			ranged(t, v.members(region))
		}
		ranged(t, v.across(1))
	}
}
