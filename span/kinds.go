package span

import (
	"iter"
	"slices"

	"archivolt/api"
)

// kind is the way in which the pages of a volume lie on the members of an array.
type kind interface {
	// fits reports whether an array that is within the bounds of all kinds is one of this kind.
	fits() bool
	// size returns the number of pages of the volume.
	size() int
	// spots yields where a page lies, and then where its parity does.
	spots(page int) iter.Seq[api.Spot]
	// at returns what lies at a spot.
	at(s api.Spot) content
	// row yields the pages that share a parity page with a page.
	row(page int) iter.Seq[int]
	// region returns the region of a page.
	region(page int) int
	// depth returns how many pages of each member, from the first one on, can be rebuilt from those of the other members.
	depth() int
	// spare returns how many members may be dead while all pages are left.
	spare() int
}

// content is what lies at a spot.
type content struct{ page, role int }

// kinds returns an array as one of each kind.
func kinds(a *array) map[int]kind {
	return map[int]kind{
		api.SpPlain:  plain{concat{array: a}},
		api.SpConcat: concat{array: a},
		api.SpStripe: stripe{dealt: dealt{a, a.many}},
		api.SpMirror: mirror{array: a},
		api.SpParity: parity{dealt{a, a.many - 1}},
	}
}

// single has what holds for kinds whose pages lie at one spot only.
type single struct{}

func (single) row(page int) iter.Seq[int] { return slices.Values([]int{page}) }

func (single) region(int) int { return 0 }

func (single) depth() int { return 0 }

func (single) spare() int { return 0 }

// concat has the members one behind the other.
type concat struct {
	single
	*array
}

func (concat) fits() bool { return true }

func (c concat) size() int { return c.ahead(c.many) }

// ahead returns how many pages the members ahead of one have.
func (c concat) ahead(member int) int {
	pages := 0
	for _, n := range c.Members[:member] {
		pages += n
	}
	return pages
}

func (c concat) spots(page int) iter.Seq[api.Spot] {
	member := 0
	for page >= c.Members[member] {
		page -= c.Members[member]
		member++
	}
	return slices.Values([]api.Spot{{Member: member, Page: page}})
}

func (c concat) at(s api.Spot) content { return content{c.ahead(s.Member) + s.Page, api.RoData} }

// plain is one member alone.
type plain struct{ concat }

func (p plain) fits() bool { return p.many == 1 }

// dealt has chunks that are dealt out to the members, wide of them in each round.
type dealt struct {
	*array
	wide int
}

func (d dealt) size() int { return d.wide * d.whole }

// split returns the round in which a page is dealt out, its turn there, and its place in the chunk.
func (d dealt) split(page int) (round, turn, place int) {
	chunk := page / d.Chunk
	return chunk / d.wide, chunk % d.wide, page % d.Chunk
}

// joined returns the page that split splits like that.
func (d dealt) joined(round, turn, place int) int { return (round*d.wide+turn)*d.Chunk + place }

// stripe deals its chunks out to all members in turn.
type stripe struct {
	single
	dealt
}

func (s stripe) fits() bool { return s.many >= 2 && s.least >= s.Chunk }

func (s stripe) spots(page int) iter.Seq[api.Spot] {
	round, turn, place := s.split(page)
	return slices.Values([]api.Spot{{Member: turn, Page: round*s.Chunk + place}})
}

func (s stripe) at(x api.Spot) content {
	if x.Page >= s.whole {
		return content{role: api.RoFree}
	}
	return content{s.joined(x.Page/s.Chunk, x.Member, x.Page%s.Chunk), api.RoData}
}

// mirror has each page on all members.
type mirror struct {
	single
	*array
}

func (m mirror) fits() bool { return m.many >= 2 }

func (m mirror) size() int { return m.least }

func (m mirror) spots(page int) iter.Seq[api.Spot] { return m.across(page) }

func (m mirror) at(s api.Spot) content {
	switch {
	case s.Page >= m.least:
		return content{role: api.RoFree}
	case s.Member == 0:
		return content{s.Page, api.RoData}
	}
	return content{s.Page, api.RoCopy}
}

func (m mirror) region(page int) int { return page / m.Chunk }

func (m mirror) depth() int { return m.least }

func (m mirror) spare() int { return m.many - 1 }

// parity deals its chunks out to all members but one, which has the parity of the round.
type parity struct{ dealt }

func (p parity) fits() bool { return p.many >= 3 && p.least >= p.Chunk }

// keeper returns the member that has the parity of a round.
func (p parity) keeper(round int) int { return round % p.many }

func (p parity) spots(page int) iter.Seq[api.Spot] {
	round, turn, place := p.split(page)
	keeper := p.keeper(round)
	at := round*p.Chunk + place
	return slices.Values([]api.Spot{{Member: (keeper + 1 + turn) % p.many, Page: at}, {Member: keeper, Page: at}})
}

func (p parity) at(s api.Spot) content {
	if s.Page >= p.whole {
		return content{role: api.RoFree}
	}
	round, place := s.Page/p.Chunk, s.Page%p.Chunk
	keeper := p.keeper(round)
	if s.Member == keeper {
		return content{p.joined(round, 0, place), api.RoParity}
	}
	turn := (s.Member - keeper - 1 + p.many) % p.many
	return content{p.joined(round, turn, place), api.RoData}
}

func (p parity) row(page int) iter.Seq[int] {
	round, _, place := p.split(page)
	return func(yield func(int) bool) {
		for turn := range p.wide {
			if !yield(p.joined(round, turn, place)) {
				return
			}
		}
	}
}

func (p parity) region(page int) int {
	round, _, _ := p.split(page)
	return round
}

func (p parity) depth() int { return p.whole }

func (parity) spare() int { return 1 }
