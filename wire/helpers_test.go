package wire_test

import (
	"bytes"
	"math"
	"math/rand"

	"archivolt/api"
	"archivolt/wire"
)

// edges returns all powers of 2, their neighbours, and what is negative of them.
func edges() []int {
	list := []int{0, math.MinInt, math.MinInt + 1, math.MaxInt, math.MaxInt - 1}
	for shift := range 63 {
		for near := -1; near <= 1; near++ {
			n := 1<<shift + near
			list = append(list, n, -n)
		}
	}
	return list
}

// chance returns a source of numbers that are the same in each run.
func chance() *rand.Rand { return rand.New(rand.NewSource(1)) }

// anyNumber returns a number of any magnitude, with either sign.
func anyNumber(r *rand.Rand) int { return int(r.Uint64()) >> r.Intn(64) }

func anyBytes(r *rand.Rand, most int) []byte {
	b := make([]byte, r.Intn(most+1))
	r.Read(b)
	return b
}

// fewBytes returns bytes that are often right: many of them are 0, 1, 127, 128 or 255.
func fewBytes(r *rand.Rand, most int) []byte {
	b := anyBytes(r, most)
	for i := range b {
		if r.Intn(3) > 0 {
			b[i] = []byte{0, 1, 2, 127, 128, 255}[r.Intn(6)]
		}
	}
	return b
}

// anyLayout returns a valid layout with narrow fields.
func anyLayout(r *rand.Rand) []api.Field {
	var l []api.Field
	for i := range r.Intn(8) {
		f := api.Field{Name: string(rune('a' + i)), Kind: 1 + r.Intn(5)}
		switch f.Kind {
		case api.FdUint, api.FdInt:
			f.Width = 1 + r.Intn(8)
		case api.FdBytes, api.FdText:
			f.Width = r.Intn(5)
		}
		l = append(l, f)
	}
	return l
}

// anyItem returns an item that suits a field.
func anyItem(r *rand.Rand, f api.Field) api.Datum {
	above := 64 - 8*f.Width
	switch f.Kind {
	case api.FdUint:
		return api.Datum{N: int(r.Uint64() >> max(1, above))}
	case api.FdInt:
		return api.Datum{N: int(r.Uint64()) >> above}
	case api.FdVar:
		return api.Datum{N: int(r.Uint64() >> (1 + r.Intn(63)))}
	case api.FdBytes:
		b := make([]byte, f.Width)
		r.Read(b)
		return api.Datum{B: b}
	}
	return api.Datum{B: anyBytes(r, f.Width)}
}

func anyItems(r *rand.Rand, l []api.Field) []api.Datum {
	var items []api.Datum
	for _, f := range l {
		items = append(items, anyItem(r, f))
	}
	return items
}

func sameItem(a, b api.Datum) bool { return a.N == b.N && bytes.Equal(a.B, b.B) }

func sameItems(a, b []api.Datum) bool {
	if len(a) != len(b) {
		return false
	}
	for i := range a {
		if !sameItem(a[i], b[i]) {
			return false
		}
	}
	return true
}

func join(parts ...[]byte) []byte { return bytes.Join(parts, nil) }

// record is the layout of the chapter's examples.
func record() []api.Field {
	return []api.Field{{Name: "a", Kind: api.FdUint, Width: 2}, {Name: "b", Kind: api.FdText, Width: 3}, {Name: "c", Kind: api.FdInt, Width: 1}}
}

// mustVar returns a variable number that can be written.
func mustVar(n int) []byte {
	b, e := wire.Var(n)
	if e != api.OK {
		panic("no variable number")
	}
	return b
}
