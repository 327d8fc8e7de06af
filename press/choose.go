package press

import (
	"iter"

	"archivolt/api"
)

const (
	literalCost = 9 // bits, with the one that tells that it is no copy
	copyCost    = 17
)

// greedy yields the tokens of a unit that has a copy, of the greatest match, wherever one may be.
func greedy(u *unit) iter.Seq2[int, api.Symbol] {
	return u.tokens(func(p int) (back, many int) { return u.longest(p, u.most(p)) })
}

// cheapest yields the tokens of a unit whose cost is the least.
func cheapest(u *unit) iter.Seq2[int, api.Symbol] {
	most := u.cheap()
	return u.tokens(func(p int) (back, many int) { return u.longest(p, most[p]) })
}

// tokens yields tokens of a unit with their positions: the copies that are chosen, and literals where what is chosen is too short for a copy.
func (u *unit) tokens(choose func(p int) (back, many int)) iter.Seq2[int, api.Symbol] {
	return func(yield func(int, api.Symbol) bool) {
		for p := 0; p < len(u.data); {
			s := api.Symbol{Byte: u.data[p]}
			if back, many := choose(p); many >= leastCopied {
				s = api.Symbol{Copy: true, Back: back, Many: many}
			}
			if !yield(p, s) {
				return
			}
			p += sizeOf(s)
		}
	}
}

// cheap returns, for each position, how many bytes the first token has where what follows costs the least: a copy, of as many bytes as possible, rather than a literal.
func (u *unit) cheap() *[api.MaxUnit]int {
	var many [api.MaxUnit]int
	var least [api.MaxUnit + 1]int // costs from each position on
	for p := len(u.data) - 1; p >= 0; p-- {
		many[p], least[p] = 1, literalCost+least[p+1]
		_, most := u.longest(p, u.most(p))
		for n := leastCopied; n <= most; n++ {
			if cost := copyCost + least[p+n]; cost <= least[p] {
				many[p], least[p] = n, cost
			}
		}
	}
	return &many
}
