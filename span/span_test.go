package span_test

import (
	"math"
	"slices"
	"testing"

	"archivolt/api"
	"archivolt/span"
)

func TestP8_1Check(t *testing.T) {
	for _, l := range some() {
		if e := span.Check(l); e != api.OK {
			t.Error(l, e)
		}
	}
	for _, l := range []api.Layout{
		layout(api.SpPlain, 1, 1), layout(api.SpPlain, 64, 4096), layout(api.SpPlain, 64, 1),
		layout(api.SpConcat, 64, 1), layout(api.SpConcat, 64, 1, 4096, 1, 1, 1, 1),
		layout(api.SpMirror, 64, 1, 1), layout(api.SpMirror, 1, 4096, 1, 1, 1, 1, 1),
		layout(api.SpStripe, 64, 64, 64), layout(api.SpStripe, 4, 9, 4, 5, 6, 4, 4096),
		layout(api.SpParity, 64, 64, 64, 64), layout(api.SpParity, 4, 9, 4, 5, 6, 4, 4096),
	} {
		if e := span.Check(l); e != api.OK {
			t.Error(l, e)
		}
	}
	for _, l := range invalid() {
		if e := span.Check(l); e != api.ErrArg {
			t.Error(l, e)
		}
	}
}

func TestP8_1Size(t *testing.T) {
	for _, c := range []struct {
		l    api.Layout
		want int
	}{
		{layout(api.SpPlain, 9, 5), 5},
		{layout(api.SpConcat, 1, 3, 4), 7},
		{layout(api.SpConcat, 64, 1, 2, 3, 4, 5, 6), 21},
		{layout(api.SpStripe, 2, 5, 9), 8},
		{layout(api.SpStripe, 5, 9, 8, 7), 15},
		{layout(api.SpMirror, 1, 3, 4), 3},
		{layout(api.SpMirror, 2, 4, 3), 3},
		{sample(), 8},
		{layout(api.SpParity, 3, 8, 9, 10, 11), 18},
		{layout(api.SpStripe, 64, 4096, 4096, 4096, 4096, 4096, 4096), 24576},
		{layout(api.SpParity, 63, 4096, 4096, 4096, 4096, 4096, 4096), 20475},
	} {
		one(t, c.want)(span.Size(c.l))
	}
	each(t, func(p *plain) { one(t, len(p.places))(span.Size(p.Layout)) })
}

// All functions return ErrArg first, unless the layout is valid, whatever else is wrong.
func TestInvalidLayouts(t *testing.T) {
	for _, l := range invalid() {
		none[int](t, api.ErrArg)(span.Size(l))
		none[int](t, api.ErrArg)(span.Regions(l))
		for _, x := range []int{0, -1, 1, math.MaxInt, math.MinInt} {
			noList[api.Spot](t, api.ErrArg)(span.Place(l, x))
			noList[int](t, api.ErrArg)(span.Row(l, x))
			none[int](t, api.ErrArg)(span.Region(l, x))
			noList[api.Spot](t, api.ErrArg)(span.Members(l, x))
			for _, s := range at(0, x, x, 0, x, x) {
				noPage(t, api.ErrArg)(span.Page(l, s))
				noList[api.Spot](t, api.ErrArg)(span.Peers(l, s))
			}
		}
		for _, dead := range [][]bool{nil, {false}, {true}, make([]bool, len(l.Members))} {
			none[int](t, api.ErrArg)(span.State(l, dead))
		}
		none[bool](t, api.ErrArg)(span.Extends(l, l))
		none[bool](t, api.ErrArg)(span.Extends(l, sample()))
		none[bool](t, api.ErrArg)(span.Extends(sample(), l))
	}
}

func TestP8_2Place(t *testing.T) {
	all(t, at(0, 4)...)(span.Place(layout(api.SpPlain, 2, 5), 4))
	all(t, at(1, 2)...)(span.Place(layout(api.SpConcat, 1, 3, 4), 5))
	all(t, at(0, 2)...)(span.Place(layout(api.SpConcat, 1, 3, 4), 2))
	all(t, at(1, 0)...)(span.Place(layout(api.SpConcat, 1, 3, 4), 3))
	all(t, at(1, 2)...)(span.Place(layout(api.SpStripe, 2, 5, 9), 6))
	all(t, at(0, 3)...)(span.Place(layout(api.SpStripe, 2, 5, 9), 5))
	all(t, at(0, 2, 1, 2)...)(span.Place(layout(api.SpMirror, 1, 3, 4), 2))
	all(t, at(0, 0, 1, 0, 2, 0)...)(span.Place(layout(api.SpMirror, 1, 3, 4, 5), 0))
	all(t, at(1, 0, 0, 0)...)(span.Place(sample(), 0))
	all(t, at(2, 3, 1, 3)...)(span.Place(sample(), 5))
	all(t, at(0, 2, 1, 2)...)(span.Place(sample(), 6))
	each(t, func(p *plain) {
		for page, spots := range p.places {
			all(t, spots...)(span.Place(p.Layout, page))
		}
	})
}

func TestP8_2Page(t *testing.T) {
	has(t, lying{5, api.RoParity})(span.Page(sample(), at(1, 3)[0]))
	has(t, lying{0, api.RoFree})(span.Page(sample(), at(2, 4)[0]))
	has(t, lying{0, api.RoParity})(span.Page(sample(), at(0, 0)[0]))
	has(t, lying{7, api.RoData})(span.Page(sample(), at(0, 3)[0]))
	has(t, lying{5, api.RoData})(span.Page(layout(api.SpConcat, 1, 3, 4), at(1, 2)[0]))
	has(t, lying{2, api.RoData})(span.Page(layout(api.SpMirror, 1, 3, 4), at(0, 2)[0]))
	has(t, lying{2, api.RoCopy})(span.Page(layout(api.SpMirror, 1, 3, 4), at(1, 2)[0]))
	has(t, lying{0, api.RoFree})(span.Page(layout(api.SpMirror, 1, 3, 4), at(1, 3)[0]))
	has(t, lying{0, api.RoFree})(span.Page(layout(api.SpMirror, 1, 4, 3), at(0, 3)[0]))
	has(t, lying{0, api.RoFree})(span.Page(layout(api.SpStripe, 2, 5, 9), at(0, 4)[0]))
	has(t, lying{7, api.RoData})(span.Page(layout(api.SpStripe, 2, 5, 9), at(1, 3)[0]))
	each(t, func(p *plain) {
		for s, want := range p.roles {
			has(t, want)(span.Page(p.Layout, s))
		}
	})
}

func TestP8_3Peers(t *testing.T) {
	all(t, at(0, 3, 2, 3)...)(span.Peers(sample(), at(1, 3)[0]))
	all(t, at(1, 0, 2, 0)...)(span.Peers(sample(), at(0, 0)[0]))
	all(t, at(0, 1, 1, 1)...)(span.Peers(sample(), at(2, 1)[0]))
	all[api.Spot](t)(span.Peers(sample(), at(2, 4)[0]))
	all[api.Spot](t)(span.Peers(layout(api.SpParity, 2, 5, 5, 5), at(1, 4)[0]))
	all(t, at(1, 2, 2, 2)...)(span.Peers(layout(api.SpMirror, 1, 3, 4, 5), at(0, 2)[0]))
	all(t, at(0, 2, 2, 2)...)(span.Peers(layout(api.SpMirror, 1, 3, 4, 5), at(1, 2)[0]))
	all[api.Spot](t)(span.Peers(layout(api.SpMirror, 1, 3, 4, 5), at(1, 3)[0]))
	all[api.Spot](t)(span.Peers(layout(api.SpStripe, 1, 3, 4), at(0, 0)[0]))
	all[api.Spot](t)(span.Peers(layout(api.SpConcat, 1, 3, 4), at(0, 0)[0]))
	all[api.Spot](t)(span.Peers(layout(api.SpPlain, 1, 3), at(0, 0)[0]))
	each(t, func(p *plain) {
		for s := range p.roles {
			all(t, p.peers(s)...)(span.Peers(p.Layout, s))
		}
	})
}

func TestP8_3Row(t *testing.T) {
	all(t, 5, 7)(span.Row(sample(), 5))
	all(t, 5, 7)(span.Row(sample(), 7))
	all(t, 0, 2)(span.Row(sample(), 0))
	all(t, 1, 4, 7)(span.Row(layout(api.SpParity, 3, 3, 3, 3, 3), 4))
	all(t, 2)(span.Row(layout(api.SpMirror, 1, 3, 4), 2))
	all(t, 3)(span.Row(layout(api.SpStripe, 2, 5, 9), 3))
	all(t, 6)(span.Row(layout(api.SpConcat, 1, 3, 4), 6))
	all(t, 0)(span.Row(layout(api.SpPlain, 1, 3), 0))
	each(t, func(p *plain) {
		for page, row := range p.rows {
			all(t, row...)(span.Row(p.Layout, page))
		}
	})
}

// Pages and spots that are not there.
func TestP8_2P8_3Range(t *testing.T) {
	each(t, func(p *plain) {
		l, n := p.Layout, len(p.places)
		for _, page := range []int{n, n + 1, -1, math.MaxInt, math.MinInt} {
			noList[api.Spot](t, api.ErrRange)(span.Place(l, page))
			noList[int](t, api.ErrRange)(span.Row(l, page))
			none[int](t, api.ErrRange)(span.Region(l, page))
		}
		members := len(l.Members)
		spots := at(members, 0, -1, 0, math.MaxInt, 0, math.MinInt, 0, -1, -1, members, -1, math.MaxInt, math.MaxInt)
		for m, pages := range l.Members {
			spots = append(spots, at(m, pages, m, pages+1, m, -1, m, math.MaxInt, m, math.MinInt)...)
		}
		for _, s := range spots {
			noPage(t, api.ErrRange)(span.Page(l, s))
			noList[api.Spot](t, api.ErrRange)(span.Peers(l, s))
		}
	})
}

func TestP8_4Regions(t *testing.T) {
	one(t, 2)(span.Regions(sample()))
	one(t, 0)(span.Region(sample(), 3))
	one(t, 1)(span.Region(sample(), 4))
	one(t, 3)(span.Regions(layout(api.SpMirror, 2, 5, 6)))
	one(t, 2)(span.Regions(layout(api.SpMirror, 2, 9, 4)))
	one(t, 1)(span.Regions(layout(api.SpMirror, 64, 5, 6)))
	one(t, 1)(span.Region(layout(api.SpMirror, 2, 5, 6), 3))
	one(t, 2)(span.Region(layout(api.SpMirror, 2, 5, 6), 4))
	one(t, 0)(span.Regions(layout(api.SpStripe, 2, 5, 9)))
	one(t, 0)(span.Region(layout(api.SpStripe, 2, 5, 9), 7))
	one(t, 0)(span.Region(layout(api.SpConcat, 2, 5, 9), 13))
	one(t, 0)(span.Region(layout(api.SpPlain, 2, 5), 4))
	each(t, func(p *plain) {
		one(t, len(p.regions))(span.Regions(p.Layout))
		for page, region := range p.region {
			one(t, region)(span.Region(p.Layout, page))
		}
	})
}

func TestP8_4Members(t *testing.T) {
	all(t, at(0, 2, 0, 3, 1, 2, 1, 3, 2, 2, 2, 3)...)(span.Members(sample(), 1))
	all(t, at(0, 4, 1, 4)...)(span.Members(layout(api.SpMirror, 2, 5, 6), 2))
	all(t, at(0, 0, 0, 1, 1, 0, 1, 1)...)(span.Members(layout(api.SpMirror, 2, 5, 6), 0))
	each(t, func(p *plain) {
		for region, spots := range p.regions {
			all(t, spots...)(span.Members(p.Layout, region))
		}
		n := len(p.regions)
		for _, region := range []int{n, n + 1, -1, math.MaxInt, math.MinInt} {
			noList[api.Spot](t, api.ErrRange)(span.Members(p.Layout, region))
		}
	})
}

// deaths returns all choices of dead ones among some members.
func deaths(members int) [][]bool {
	l := [][]bool{{}}
	for range members {
		var longer [][]bool
		for _, dead := range l {
			longer = append(longer, append(slices.Clone(dead), false), append(slices.Clone(dead), true))
		}
		l = longer
	}
	return l
}

func TestP8_5State(t *testing.T) {
	for _, c := range []struct {
		l    api.Layout
		dead []bool
		want int
	}{
		{sample(), []bool{false, false, false}, api.StWhole},
		{sample(), []bool{false, true, false}, api.StDegraded},
		{sample(), []bool{true, true, false}, api.StLost},
		{sample(), []bool{true, true, true}, api.StLost},
		{layout(api.SpMirror, 1, 3, 4, 5), []bool{true, false, true}, api.StDegraded},
		{layout(api.SpMirror, 1, 3, 4, 5), []bool{true, true, true}, api.StLost},
		{layout(api.SpPlain, 1, 3), []bool{false}, api.StWhole},
		{layout(api.SpPlain, 1, 3), []bool{true}, api.StLost},
		{layout(api.SpConcat, 1, 3, 3), []bool{false, true}, api.StLost},
		{layout(api.SpStripe, 1, 3, 3), []bool{true, false}, api.StLost},
	} {
		one(t, c.want)(span.State(c.l, c.dead))
	}
	each(t, func(p *plain) {
		if len(p.places) > 1000 {
			return
		}
		for _, dead := range deaths(len(p.Members)) {
			one(t, p.state(dead))(span.State(p.Layout, dead))
		}
	})
}

func TestP8_5StateErrors(t *testing.T) {
	each(t, func(p *plain) {
		for n := range 9 {
			if n != len(p.Members) {
				none[int](t, api.ErrArg)(span.State(p.Layout, make([]bool, n)))
				none[int](t, api.ErrArg)(span.State(p.Layout, slices.Repeat([]bool{true}, n)))
			}
		}
		none[int](t, api.ErrArg)(span.State(p.Layout, nil))
	})
}

func TestP8_6Extends(t *testing.T) {
	for _, c := range []struct {
		a, b api.Layout
		want bool
	}{
		{layout(api.SpConcat, 1, 3), layout(api.SpConcat, 2, 3, 4), true},
		{layout(api.SpConcat, 2, 3, 4), layout(api.SpConcat, 1, 3), false},
		{layout(api.SpConcat, 1, 3, 4), layout(api.SpConcat, 1, 3, 5), true},
		{layout(api.SpConcat, 1, 3, 4), layout(api.SpConcat, 1, 4, 4), false},
		{layout(api.SpPlain, 1, 3), layout(api.SpPlain, 1, 4), true},
		{layout(api.SpPlain, 1, 4), layout(api.SpPlain, 1, 3), false},
		{layout(api.SpPlain, 1, 3), layout(api.SpConcat, 1, 3, 4), true},
		{layout(api.SpPlain, 1, 3), layout(api.SpMirror, 1, 3, 3), false},
		{layout(api.SpMirror, 1, 3, 3), layout(api.SpPlain, 1, 3), false},
		{layout(api.SpMirror, 1, 3, 3), layout(api.SpMirror, 2, 4, 3), true},
		{layout(api.SpMirror, 1, 3, 3), layout(api.SpMirror, 1, 3, 3, 3), false},
		{layout(api.SpStripe, 2, 4, 4), layout(api.SpStripe, 2, 6, 7), true},
		{layout(api.SpStripe, 2, 4, 4), layout(api.SpStripe, 1, 4, 4), false},
		{layout(api.SpStripe, 2, 4, 4), layout(api.SpStripe, 2, 4, 4, 4), false},
		// With one round there is nothing that another member could push aside.
		{layout(api.SpStripe, 4, 4, 4), layout(api.SpStripe, 4, 4, 4, 4), true},
		{layout(api.SpConcat, 1, 3, 3), layout(api.SpStripe, 3, 6, 6), true},
		// The pages of a that are free need not be there by b.
		{layout(api.SpStripe, 2, 5, 9), layout(api.SpStripe, 2, 4, 4), true},
		{sample(), layout(api.SpParity, 2, 6, 6, 6), true},
		{sample(), layout(api.SpParity, 2, 4, 4, 5, 4), false},
		{layout(api.SpParity, 2, 3, 3, 3), layout(api.SpParity, 2, 2, 2, 2, 2), true},
		{sample(), layout(api.SpParity, 1, 4, 4, 5), false},
		{sample(), layout(api.SpStripe, 2, 4, 4, 5), false},
		// The spots are those of a page and its copy, but of a page and its parity by the other.
		{layout(api.SpMirror, 1, 1, 1), layout(api.SpParity, 1, 1, 1, 1), false},
	} {
		one(t, c.want)(span.Extends(c.a, c.b))
	}
}

// Of two layouts that are often alike Extends is as the places of all pages are.
func TestP8_6ExtendsAny(t *testing.T) {
	r := chance()
	yes := 0
	for range 30000 {
		a := anyLayout(r, 1+r.Intn(5))
		b := alike(r, a)
		if span.Check(b) != api.OK {
			continue
		}
		want := newPlain(a).extends(newPlain(b))
		if want {
			yes++
		}
		one(t, want)(span.Extends(a, b))
		if t.Failed() {
			t.Fatal(a, b)
		}
	}
	if yes < 1000 {
		t.Error("only", yes, "layouts extend others")
	}
}
