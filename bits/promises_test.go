package bits_test

import (
	"slices"
	"testing"

	"archivolt/api"
	"archivolt/bits"
)

func TestP3_8Sets(t *testing.T) {
	r := chance()
	ok := good[api.Bits](t)
	count := func(b api.Bits) int { return good[int](t)(bits.Count(b, 0, b.N)) }
	for range 300 {
		n := r.Intn(100)
		a, b := pack(anyBools(r, n)), pack(anyBools(r, n))
		and, or := ok(bits.And(a, b)), ok(bits.Or(a, b))
		if count(and)+count(or) != count(a)+count(b) {
			t.Fatal("counts", a, b)
		}
		if !same(ok(bits.Minus(a, b)), ok(bits.And(a, ok(bits.Not(b))))) {
			t.Fatal("Minus", a, b)
		}
		if !same(ok(bits.Not(ok(bits.Not(a)))), a) {
			t.Fatal("Not", a)
		}
		if !same(ok(bits.Not(and)), ok(bits.Or(ok(bits.Not(a)), ok(bits.Not(b))))) {
			t.Fatal("Not of And", a, b)
		}
		if !same(and, ok(bits.And(b, a))) || !same(or, ok(bits.Or(b, a))) {
			t.Fatal("order", a, b)
		}
	}
	// Minus depends on the order.
	x, y := api.Bits{N: 2, B: []byte{1}}, api.Bits{N: 2, B: []byte{2}}
	if !same(ok(bits.Minus(x, y)), x) || !same(ok(bits.Minus(y, x)), y) {
		t.Error("Minus")
	}
}

func TestP3_9Ranges(t *testing.T) {
	r := chance()
	for range 1000 {
		l := anyBools(r, r.Intn(100))
		b := pack(l)
		at := r.Intn(len(l) + 1)
		many := r.Intn(len(l) - at + 1)
		for _, on := range []bool{false, true} {
			c := good[api.Bits](t)(bits.Set(b, at, many, on))
			want := 0
			if on {
				want = many
			}
			if n, e := bits.Count(c, at, many); n != want || e != api.OK {
				t.Fatal(b, at, many, on, n, e)
			}
			changed := slices.Clone(l)
			for i := range many {
				changed[at+i] = on
			}
			if !same(c, pack(changed)) {
				t.Fatal(b, at, many, on, c)
			}
		}
		left := r.Intn(many + 1)
		count := func(at, many int) int { return good[int](t)(bits.Count(b, at, many)) }
		if whole := count(at, many); whole != count(at, left)+count(at+left, many-left) || whole != plainCount(l[at:at+many]) {
			t.Fatal(b, at, left, many)
		}
	}
}

func TestP3_10Runs(t *testing.T) {
	r := chance()
	for range 300 {
		b := pack(anyBools(r, r.Intn(100)))
		on := good[[]api.Range](t)(bits.Runs(b, true))
		off := good[[]api.Range](t)(bits.Runs(b, false))
		all := slices.Concat(on, off)
		slices.SortFunc(all, func(x, y api.Range) int { return x.At - y.At })
		end := 0
		for _, x := range all {
			if x.At != end || x.Many < 1 {
				t.Fatal(b, all)
			}
			end += x.Many
		}
		again := good[api.Bits](t)(bits.New(b.N))
		for _, x := range on {
			again = good[api.Bits](t)(bits.Set(again, x.At, x.Many, true))
		}
		if end != b.N || !same(again, b) {
			t.Fatal(b, on, off)
		}
	}
}

func TestP3_11Places(t *testing.T) {
	r := chance()
	for range 1000 {
		l := anyBools(r, r.Intn(100))
		b := pack(l)
		many, near := 1+r.Intn(12), r.Intn(len(l)+1)
		places := plainPlaces(l, many)
		for how := api.FindFirst; how <= api.FindNext; how++ {
			at, e := bits.Find(b, many, how, near)
			if e == api.ErrNone {
				if len(places) > 0 {
					t.Fatal(b, many, how, near)
				}
				continue
			}
			if e != api.OK || !slices.Contains(places, at) {
				t.Fatal(b, many, how, near, at, e)
			}
			if how == api.FindFirst && at != places[0] {
				t.Fatal(b, many, at)
			}
			if how != api.FindBest {
				continue
			}
			runs := plainRuns(l, false)
			found := slices.IndexFunc(runs, func(x api.Range) bool { return x.At == at })
			if found < 0 || slices.ContainsFunc(runs, func(x api.Range) bool { return x.Many >= many && x.Many < runs[found].Many }) {
				t.Fatal(b, many, at)
			}
		}
	}
}

func TestP3_12Gathered(t *testing.T) {
	r := chance()
	for range 1000 {
		l := anyBools(r, r.Intn(100))
		many, near := 1+r.Intn(len(l)+1), r.Intn(len(l)+1)
		free := len(l) - plainCount(l)
		got, e := bits.Gather(pack(l), many, near)
		if e == api.ErrNone {
			if free >= many {
				t.Fatal(l, many, near)
			}
			continue
		}
		sum, end := 0, -1
		for _, x := range got {
			// No touching one: there is a bit between.
			if x.Many < 1 || x.At <= end || plainCount(l[x.At:x.At+x.Many]) > 0 {
				t.Fatal(l, many, near, got)
			}
			sum, end = sum+x.Many, x.At+x.Many
			for i := range x.Many {
				l[x.At+i] = true
			}
		}
		if e != api.OK || sum != many || len(l)-plainCount(l) != free-many {
			t.Fatal(l, many, near, got, e)
		}
	}
}

// No other choice of as many runs of clear bits, less one, has enough bits.
func TestP3_12Fewest(t *testing.T) {
	r := chance()
	for range 300 {
		l := anyBools(r, r.Intn(40))
		many := 1 + r.Intn(20)
		got, e := bits.Gather(pack(l), many, r.Intn(len(l)+1))
		if e != api.OK {
			continue
		}
		var lengths []int
		for _, x := range plainRuns(l, false) {
			lengths = append(lengths, x.Many)
		}
		slices.Sort(lengths)
		most := 0
		for _, n := range lengths[len(lengths)-len(got)+1:] {
			most += n
		}
		if most >= many {
			t.Fatal(l, many, got)
		}
	}
}

func TestP3_13Sizes(t *testing.T) {
	r := chance()
	ok := good[api.Bits](t)
	for _, n := range severalSizes() {
		b := pack(anyBools(r, n))
		for _, more := range []int{0, 1, 7, 8, 9, 100, api.MaxBits - n} {
			if n+more > api.MaxBits {
				continue
			}
			wide := ok(bits.Resize(b, n+more))
			if wide.N != n+more || bits.Check(wide) != api.OK || !same(ok(bits.Resize(wide, n)), b) {
				t.Error(n, more)
			}
		}
		if !same(ok(bits.From(b.N, b.B)), b) {
			t.Error(n)
		}
	}
}
