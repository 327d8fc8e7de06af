package bits_test

import (
	"bytes"
	"math"
	"math/rand"
	"slices"
	"testing"

	"archivolt/api"
)

// chance returns a source of numbers that are the same in each run.
func chance() *rand.Rand { return rand.New(rand.NewSource(1)) }

// one is the bitmap of the chapter's examples: 12 bits, of which 0, 1, 5 and 11 are set.
func one() api.Bits { return api.Bits{N: 12, B: []byte{35, 8}} }

// none is what is returned with an error.
func none(b api.Bits) bool { return b.N == 0 && len(b.B) == 0 }

func same(a, b api.Bits) bool { return a.N == b.N && bytes.Equal(a.B, b.B) }

// invalid returns bitmaps that are wrong in one way each.
func invalid() []api.Bits {
	return []api.Bits{
		{N: -1}, {N: -8, B: []byte{0}}, {N: math.MinInt}, {N: math.MaxInt},
		{N: api.MaxBits + 1, B: make([]byte, api.MaxBits/8+1)},
		{N: 0, B: []byte{0}},
		{N: 8}, {N: 8, B: []byte{1, 0}},
		{N: 12, B: []byte{35}}, {N: 12, B: []byte{35, 8, 0}},
		{N: 12, B: []byte{35, 16}}, {N: 12, B: []byte{0, 128}}, {N: 1, B: []byte{2}}, {N: 15, B: []byte{0, 128}},
	}
}

// severalSizes are numbers of bits: small ones, those about whole bytes, the greatest.
func severalSizes() []int {
	sizes := []int{63, 64, 65, 127, 128, 129, 1000, api.MaxBits - 1, api.MaxBits}
	for n := range 40 {
		sizes = append(sizes, n)
	}
	return sizes
}

// pack is the bitmap as the chapter tells it.
func pack(l []bool) api.Bits {
	b := api.Bits{N: len(l)}
	for i, on := range l {
		if i%8 == 0 {
			b.B = append(b.B, 0)
		}
		if on {
			b.B[i/8] += 1 << (i % 8)
		}
	}
	return b
}

// anyBools returns bits in runs, which are often short, and often longer than a byte.
func anyBools(r *rand.Rand, n int) []bool {
	l := make([]bool, n)
	longest := []int{1, 3, 10, 40}[r.Intn(4)]
	on := r.Intn(2) == 0
	for at := 0; at < n; on = !on {
		for range 1 + r.Intn(longest) {
			if at < n {
				l[at] = on
				at++
			}
		}
	}
	return l
}

func plainCount(l []bool) int {
	n := 0
	for _, on := range l {
		if on {
			n++
		}
	}
	return n
}

func plainRuns(l []bool, on bool) []api.Range {
	var all []api.Range
	for i, x := range l {
		switch {
		case x != on:
		case i > 0 && l[i-1] == on:
			all[len(all)-1].Many++
		default:
			all = append(all, api.Range{At: i, Many: 1})
		}
	}
	return all
}

// plainPlaces returns all places of many clear bits.
func plainPlaces(l []bool, many int) []int {
	var all []int
	for at := 0; at+many <= len(l); at++ {
		if plainCount(l[at:at+many]) == 0 {
			all = append(all, at)
		}
	}
	return all
}

// plainFind is Find as the chapter tells it: -1 if there is no place.
func plainFind(l []bool, many, how, near int) int {
	places := plainPlaces(l, many)
	if len(places) == 0 {
		return -1
	}
	switch how {
	case api.FindNext:
		if i := slices.IndexFunc(places, func(at int) bool { return at >= near }); i >= 0 {
			return places[i]
		}
	case api.FindBest:
		fits := slices.DeleteFunc(plainRuns(l, false), func(r api.Range) bool { return r.Many < many })
		return slices.MinFunc(fits, func(a, b api.Range) int { return a.Many - b.Many }).At
	}
	return places[0]
}

// plainGather is Gather as the chapter tells it: nil if there are too few bits.
func plainGather(l []bool, many, near int) []api.Range {
	if at := plainFind(l, many, api.FindNext, near); at >= 0 {
		return []api.Range{{At: at, Many: many}}
	}
	left := plainRuns(l, false)
	var taken []api.Range
	for many > 0 {
		if len(left) == 0 {
			return nil
		}
		at := 0
		for i, r := range left {
			if r.Many > left[at].Many {
				at = i
			}
		}
		r := left[at]
		left = slices.Delete(left, at, at+1)
		r.Many = min(r.Many, many)
		many -= r.Many
		taken = append(taken, r)
	}
	slices.SortFunc(taken, func(a, b api.Range) int { return a.At - b.At })
	return taken
}

// good ends a test if a call returned an error.
func good[T any](t *testing.T) func(T, api.Errno) T {
	return func(x T, e api.Errno) T {
		t.Helper()
		if e != api.OK {
			t.Fatal(e)
		}
		return x
	}
}
