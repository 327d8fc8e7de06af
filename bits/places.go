package bits

import (
	"cmp"
	"iter"
	"math/bits"
	"slices"

	"archivolt/api"
)

// Runs returns all runs of bits that are set, or clear.
func Runs(b api.Bits, on bool) ([]api.Range, api.Errno) {
	return call(func() []api.Range {
		needValid(b)
		return slices.Collect(runs(b, on))
	})
}

// runs yields the runs in order.
func runs(b api.Bits, on bool) iter.Seq[api.Range] {
	return func(yield func(api.Range) bool) {
		for at := seek(b, 0, on); at < b.N; {
			end := seek(b, at, !on)
			if !yield(api.Range{At: at, Many: end - at}) {
				return
			}
			at = seek(b, end, on)
		}
	}
}

// seek returns the first bit from at on that is set (on), or clear, and N if there is none.
func seek(b api.Bits, at int, on bool) int {
	for at < b.N {
		i := at / perByte
		x := b.B[i]
		if !on {
			x = ^x
		}
		if x = x >> (at % perByte) << (at % perByte); x != 0 {
			// The spare bits of the last byte are clear, and the first one of them has the number N.
			return i*perByte + bits.TrailingZeros8(x)
		}
		at = (i + 1) * perByte
	}
	return b.N
}

// way is a way to find a place.
type way struct {
	place     func(b api.Bits, many, near int) (at int, found bool)
	otherwise int // the way to go if there is no place by this one
}

// ways returns all ways; there is none with the number 0.
func ways() [api.FindNext + 1]way {
	return [api.FindNext + 1]way{
		api.FindFirst: {place: func(b api.Bits, many, _ int) (int, bool) { return next(b, many, 0) }},
		api.FindBest:  {place: best},
		api.FindNext:  {place: next, otherwise: api.FindFirst},
	}
}

// next returns the least place from near on.
func next(b api.Bits, many, near int) (at int, found bool) {
	for r := range runs(b, false) {
		if from := max(r.At, near); r.At+r.Many-from >= many {
			return from, true
		}
	}
	return 0, false
}

// best returns where the shortest run is that suffices.
func best(b api.Bits, many, _ int) (at int, found bool) {
	least := b.N + 1
	for r := range runs(b, false) {
		if r.Many >= many && r.Many < least {
			at, least, found = r.At, r.Many, true
		}
	}
	return at, found
}

// Find returns a place of many clear bits.
func Find(b api.Bits, many, how, near int) (int, api.Errno) {
	return call(func() int {
		needPlace(b, many, near)
		need(how >= api.FindFirst && how <= api.FindNext, api.ErrArg)
		at, found := find(b, many, how, near)
		need(found, api.ErrNone)
		return at
	})
}

func needPlace(b api.Bits, many, near int) {
	needValid(b)
	need(many >= 1 && near >= 0 && near <= b.N, api.ErrArg)
}

func find(b api.Bits, many, how, near int) (at int, found bool) {
	table := ways()
	for how > 0 && !found {
		at, found = table[how].place(b, many, near)
		how = table[how].otherwise
	}
	return at, found
}

// Gather returns ranges of clear bits that have many bits together.
func Gather(b api.Bits, many, near int) ([]api.Range, api.Errno) {
	return call(func() []api.Range {
		needPlace(b, many, near)
		if at, found := find(b, many, api.FindNext, near); found {
			return []api.Range{{At: at, Many: many}}
		}
		return longest(b, many)
	})
}

// longest takes the longest runs of clear bits until they have many bits.
func longest(b api.Bits, many int) []api.Range {
	l := slices.Collect(runs(b, false))
	// Stable, so that the first of equally long runs is taken first.
	slices.SortStableFunc(l, func(x, y api.Range) int { return cmp.Compare(y.Many, x.Many) })
	taken := 0
	for many > 0 {
		need(taken < len(l), api.ErrNone)
		l[taken].Many = min(l[taken].Many, many)
		many -= l[taken].Many
		taken++
	}
	l = l[:taken]
	slices.SortFunc(l, func(x, y api.Range) int { return cmp.Compare(x.At, y.At) })
	return l
}
