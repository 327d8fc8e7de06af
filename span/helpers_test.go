package span_test

import (
	"math"
	"math/rand"
	"slices"
	"testing"

	"archivolt/api"
	"archivolt/span"
)

// chance returns a source of numbers that are the same in each run.
func chance() *rand.Rand { return rand.New(rand.NewSource(1)) }

func layout(kind, chunk int, members ...int) api.Layout {
	return api.Layout{Kind: kind, Members: members, Chunk: chunk}
}

// sample is the layout with a parity of the chapter's examples.
func sample() api.Layout { return layout(api.SpParity, 2, 4, 4, 5) }

// at is a list of the spots Member, Page, Member, Page, ..
func at(numbers ...int) []api.Spot {
	var l []api.Spot
	for pair := range slices.Chunk(numbers, 2) {
		l = append(l, api.Spot{Member: pair[0], Page: pair[1]})
	}
	return l
}

// good returns a function that returns what a call does, and wants no error.
func good[T any](t *testing.T) func(T, api.Errno) T {
	return func(x T, e api.Errno) T {
		t.Helper()
		if e != api.OK {
			t.Fatal(e)
		}
		return x
	}
}

// one returns a function that checks the result of a call.
func one[T comparable](t *testing.T, want T) func(T, api.Errno) {
	return func(x T, e api.Errno) {
		t.Helper()
		if x != want || e != api.OK {
			t.Errorf("%v, %d, not %v", x, e, want)
		}
	}
}

// all returns a function that checks the list that a call returns.
func all[T comparable](t *testing.T, want ...T) func([]T, api.Errno) {
	return func(l []T, e api.Errno) {
		t.Helper()
		if !slices.Equal(l, want) || e != api.OK {
			t.Errorf("%v, %d, not %v", l, e, want)
		}
	}
}

// has returns a function that checks what lies at a spot.
func has(t *testing.T, want lying) func(page, role int, e api.Errno) {
	return func(page, role int, e api.Errno) {
		t.Helper()
		if (lying{page, role}) != want || e != api.OK {
			t.Errorf("%d, %d, %d, not %v", page, role, e, want)
		}
	}
}

// none returns a function that checks that a call fails and returns nothing else.
func none[T comparable](t *testing.T, want api.Errno) func(T, api.Errno) {
	return func(x T, e api.Errno) {
		t.Helper()
		var zero T
		if x != zero || e != want {
			t.Errorf("%v, %d, not the error %d", x, e, want)
		}
	}
}

// noList does so for a list.
func noList[T any](t *testing.T, want api.Errno) func([]T, api.Errno) {
	return func(l []T, e api.Errno) {
		t.Helper()
		if l != nil || e != want {
			t.Errorf("%v, %d, not the error %d", l, e, want)
		}
	}
}

// noPage does so for what lies at a spot.
func noPage(t *testing.T, want api.Errno) func(page, role int, e api.Errno) {
	return func(page, role int, e api.Errno) {
		t.Helper()
		if page != 0 || role != 0 || e != want {
			t.Errorf("%d, %d, %d, not the error %d", page, role, e, want)
		}
	}
}

// lying is what lies at a spot.
type lying struct{ page, role int }

// plain is a layout of which each page was laid down, one after the other.
type plain struct {
	api.Layout
	places  [][]api.Spot // of each page
	rows    [][]int      // the row of each page
	roles   map[api.Spot]lying
	regions [][]api.Spot
	region  []int // of each page
}

// newPlain lays down the pages of a valid layout.
func newPlain(l api.Layout) *plain {
	p := &plain{Layout: l, roles: map[api.Spot]lying{}}
	for _, s := range p.spots(0, math.MaxInt) {
		p.roles[s] = lying{0, api.RoFree}
	}
	least := slices.Min(l.Members)
	switch l.Kind {
	case api.SpPlain, api.SpConcat:
		for _, s := range p.spots(0, math.MaxInt) {
			p.lay(0, s)
		}
	case api.SpStripe:
		for from := 0; from+l.Chunk <= least; from += l.Chunk {
			for _, s := range p.spots(from, from+l.Chunk) {
				p.lay(0, s)
			}
		}
	case api.SpMirror:
		for i := range least {
			p.lay(i/l.Chunk, p.spots(i, i+1)...)
		}
		p.cut(least)
	default:
		p.layParity(least)
		p.cut(least - least%l.Chunk)
	}
	return p
}

// spots returns the spots with some pages, in order of members, then of pages.
func (p *plain) spots(from, to int) []api.Spot {
	var l []api.Spot
	for m, pages := range p.Members {
		for i := from; i < min(to, pages); i++ {
			l = append(l, api.Spot{Member: m, Page: i})
		}
	}
	return l
}

// lay puts the next page of the volume on spots.
func (p *plain) lay(region int, spots ...api.Spot) {
	page := len(p.places)
	p.places = append(p.places, spots)
	p.rows = append(p.rows, []int{page})
	p.region = append(p.region, region)
	for i, s := range spots {
		p.roles[s] = lying{page, api.RoData}
		if i > 0 {
			p.roles[s] = lying{page, api.RoCopy}
		}
	}
}

// layParity lays down all rounds of a layout with a parity.
func (p *plain) layParity(least int) {
	n, c := len(p.Members), p.Chunk
	keeper := 0
	for round := 0; (round+1)*c <= least; round++ {
		first := len(p.places)
		for member := (keeper + 1) % n; member != keeper; member = (member + 1) % n {
			for o := range c {
				p.lay(round, api.Spot{Member: member, Page: round*c + o})
			}
		}
		for o := range c {
			var row []int
			kept := api.Spot{Member: keeper, Page: round*c + o}
			for page := first + o; page < len(p.places); page += c {
				row = append(row, page)
				p.places[page] = append(p.places[page], kept)
			}
			for _, page := range row {
				p.rows[page] = row
			}
			p.roles[kept] = lying{row[0], api.RoParity}
		}
		keeper = (keeper + 1) % n
	}
}

// cut makes regions of the pages ahead of one on all members.
func (p *plain) cut(end int) {
	for from := 0; from < end; from += p.Chunk {
		p.regions = append(p.regions, p.spots(from, min(from+p.Chunk, end)))
	}
}

// peers returns the spots of which a spot is the sum, or a copy.
func (p *plain) peers(s api.Spot) []api.Spot {
	if len(p.regions) == 0 || p.roles[s].role == api.RoFree {
		return nil
	}
	return slices.DeleteFunc(p.spots(s.Page, s.Page+1), func(x api.Spot) bool { return x == s })
}

// isLeft reports whether a page is on a living member, or can be rebuilt from such ones.
func (p *plain) isLeft(page int, dead []bool) bool {
	lives := func(s api.Spot) bool { return !dead[s.Member] }
	for _, s := range p.places[page] {
		if role := p.roles[s].role; role != api.RoParity && lives(s) {
			return true
		}
	}
	others := p.peers(p.places[page][0])
	return len(others) > 0 && !slices.ContainsFunc(others, func(s api.Spot) bool { return !lives(s) })
}

// state looks at each page of the volume.
func (p *plain) state(dead []bool) int {
	if !slices.Contains(dead, true) {
		return api.StWhole
	}
	for page := range p.places {
		if !p.isLeft(page, dead) {
			return api.StLost
		}
	}
	return api.StDegraded
}

// extends compares the places of all pages.
func (p *plain) extends(q *plain) bool {
	for page, spots := range p.places {
		if page >= len(q.places) || !slices.Equal(spots, q.places[page]) {
			return false
		}
	}
	return true
}

// fewest returns how few members a kind may have.
func fewest(kind int) int { return []int{1, 1, 2, 2, 3}[kind-1] }

// most returns how many it may have.
func most(kind int) int {
	if kind == api.SpPlain {
		return 1
	}
	return 6
}

// anyLayout returns a valid layout of a kind.
func anyLayout(r *rand.Rand, kind int) api.Layout {
	l := layout(kind, 1+r.Intn(5))
	from := 1
	if kind == api.SpStripe || kind == api.SpParity {
		from = l.Chunk
	}
	for range fewest(kind) + r.Intn(most(kind)-fewest(kind)+1) {
		l.Members = append(l.Members, from+r.Intn(14))
	}
	return l
}

// kinds are all of them.
func kinds() []int {
	return []int{api.SpPlain, api.SpConcat, api.SpStripe, api.SpMirror, api.SpParity}
}

// some returns many layouts of all kinds: small ones, and the greatest.
func some() []api.Layout {
	r := chance()
	var l []api.Layout
	for _, kind := range kinds() {
		for range 300 {
			l = append(l, anyLayout(r, kind))
		}
		for n := fewest(kind); n <= most(kind); n++ {
			l = append(l, layout(kind, 1, slices.Repeat([]int{1}, n)...), layout(kind, 3, slices.Repeat([]int{3}, n)...), layout(kind, 64, slices.Repeat([]int{64}, n)...))
		}
		l = append(l, layout(kind, 64, slices.Repeat([]int{130}, most(kind))...), layout(kind, 7, slices.Repeat([]int{4096}, most(kind))...))
	}
	return l
}

// invalid returns layouts that are not valid.
func invalid() []api.Layout {
	l := []api.Layout{
		{},
		{Kind: api.SpPlain, Chunk: 1},
		{Kind: api.SpConcat, Chunk: 1, Members: []int{}},
		layout(api.SpPlain, 1, 3, 3),
		layout(api.SpStripe, 1, 3),
		layout(api.SpMirror, 1, 3),
		layout(api.SpParity, 1, 3),
		layout(api.SpParity, 1, 3, 3),
		layout(api.SpStripe, 4, 3, 4),
		layout(api.SpStripe, 4, 4, 3),
		layout(api.SpParity, 4, 4, 4, 3),
		layout(api.SpParity, 64, 4096, 63, 4096),
		layout(0, 1, 3), layout(-1, 1, 3), layout(6, 1, 3, 3, 3), layout(math.MaxInt, 1, 3), layout(math.MinInt, 1, 3),
	}
	for _, kind := range kinds() {
		n := fewest(kind)
		for _, chunk := range []int{0, -1, 65, math.MaxInt, math.MinInt} {
			l = append(l, layout(kind, chunk, slices.Repeat([]int{100}, n)...))
		}
		for _, pages := range []int{0, -1, 4097, math.MaxInt, math.MinInt} {
			for i := range n {
				members := slices.Repeat([]int{100}, n)
				members[i] = pages
				l = append(l, layout(kind, 1, members...))
			}
		}
		l = append(l, layout(kind, 1, slices.Repeat([]int{100}, 7)...), layout(kind, 1, slices.Repeat([]int{100}, 1000)...), layout(kind, 1))
	}
	return l
}

// each does something for each of some layouts, until the test has failed.
func each(t *testing.T, do func(p *plain)) {
	t.Helper()
	for _, l := range some() {
		do(newPlain(l))
		if t.Failed() {
			t.Fatal(l)
		}
	}
}

// pageOf returns the page that lies at a spot, and its role.
func pageOf(t *testing.T, l api.Layout, s api.Spot) lying {
	t.Helper()
	page, role, e := span.Page(l, s)
	if e != api.OK {
		t.Fatal(l, s, e)
	}
	return lying{page, role}
}
