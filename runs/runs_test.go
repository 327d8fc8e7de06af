package runs_test

import (
	"math"
	"slices"
	"testing"

	"archivolt/api"
	"archivolt/runs"
)

func TestP4_1Valid(t *testing.T) {
	const most = api.MaxMapped
	for _, l := range [][]api.Run{
		nil, {}, sample(), list(0, 1), list(-1, 1), list(0, most), list(-1, most), list(most-1, 1), list(1, most-1),
		list(-1, most-1, 0, 1), list(most/2, most/2, most/2, most/2), list(3, 1, 3, 1, -1, 1, -1, 1), apart(api.MaxRuns),
		slices.Repeat(list(-1, 1), api.MaxRuns),
	} {
		if e := runs.Valid(l); e != api.OK {
			t.Error(l, e)
		}
	}
	for _, l := range notValid() {
		if e := runs.Valid(l); e != api.ErrArg {
			t.Error(l, e)
		}
	}
	for _, l := range tooLong() {
		if e := runs.Valid(l); e != api.ErrLimit {
			t.Error(len(l), e)
		}
	}
}

// The errors of mappings are the first ones of each call, those of the first mapping ahead of those of the second one.
func TestP4_1ErrorsOfMappings(t *testing.T) {
	for _, c := range calls() {
		for _, first := range []struct {
			bad [][]api.Run
			e   api.Errno
		}{{notValid(), api.ErrArg}, {tooLong(), api.ErrLimit}} {
			for _, l := range first.bad {
				for _, other := range [][]api.Run{nil, sample(), notValid()[0], tooLong()[0]} {
					want(t, c.do(l, other), first.e, c.name)
					if c.wrong != nil {
						want(t, c.wrong(l, other), first.e, c.name, "another one is wrong")
					}
				}
				if c.two {
					want(t, c.do(sample(), l), first.e, c.name, "second")
				}
				if c.two && c.wrong != nil {
					want(t, c.wrong(sample(), l), first.e, c.name, "second, another one is wrong")
				}
			}
		}
	}
}

func TestP4_1Norm(t *testing.T) {
	const most = api.MaxMapped
	for _, c := range []struct{ l, want []api.Run }{
		{nil, nil},
		{list(5, 2, 7, 3), list(5, 5)},
		{sample(), sample()},
		{list(-1, 1, -1, 2, -1, 3), list(-1, 6)},
		// A hole is no neighbour of the run at 0, though its To and Many make 0.
		{list(-1, 1, 0, 1), list(-1, 1, 0, 1)},
		{list(-1, 3, 2, 1), list(-1, 3, 2, 1)},
		{list(0, 1, -1, 1, 1, 1), list(0, 1, -1, 1, 1, 1)},
		{list(4, 1, 4, 1), list(4, 1, 4, 1)},
		{list(7, 3, 5, 2), list(7, 3, 5, 2)},
		{list(5, 2, 8, 1), list(5, 2, 8, 1)},
		{list(5, 2, 6, 1), list(5, 2, 6, 1)},
		{list(1, 1, 2, 1, 3, 1, 3, 1, 4, 1), list(1, 3, 3, 2)},
		{list(0, most/2, most/2, most/2), list(0, most)},
	} {
		if l, e := runs.Norm(c.l); !slices.Equal(l, c.want) || e != api.OK {
			t.Error(c, l, e)
		}
	}
	r := chance()
	for range 2000 {
		l := anyRuns(r)
		one(t, flat(l))(runs.Norm(l))
	}
}

func TestP4_1Same(t *testing.T) {
	for _, c := range []struct {
		a, b []api.Run
		is   bool
	}{
		{nil, nil, true}, {nil, []api.Run{}, true}, {list(5, 2, 7, 3), list(5, 5), true}, {list(5, 5), list(5, 1, 6, 4), true},
		{list(-1, 3), list(-1, 1, -1, 2), true}, {sample(), sample(), true}, {sample(), sample()[:2], false}, {sample()[:2], sample(), false},
		{list(5, 2), list(5, 3), false}, {list(5, 2), list(6, 2), false}, {list(0, 1), list(-1, 1), false}, {nil, list(-1, 1), false},
	} {
		if is, e := runs.Same(c.a, c.b); is != c.is || e != api.OK {
			t.Error(c, is, e)
		}
	}
	r := chance()
	for range 2000 {
		a, b := anyRuns(r), anyRuns(r)
		if r.Intn(2) == 0 {
			b = split(r, a)
		}
		if is, e := runs.Same(a, b); is != slices.Equal(flat(a), flat(b)) || e != api.OK {
			t.Fatal(a, b, is, e)
		}
	}
}

func TestP4_2Size(t *testing.T) {
	const most = api.MaxMapped
	for _, c := range []struct {
		l            []api.Run
		pages, taken int
	}{
		{nil, 0, 0}, {sample(), 6, 5}, {list(-1, most), most, 0}, {list(0, most), most, most}, {list(4, 1, 4, 1), 2, 2},
		{list(-1, most-1, 0, 1), most, 1}, {apart(api.MaxRuns), api.MaxRuns, api.MaxRuns},
	} {
		if pages, taken, e := runs.Size(c.l); pages != c.pages || taken != c.taken || e != api.OK {
			t.Error(c, pages, taken, e)
		}
	}
}

func TestP4_2Map(t *testing.T) {
	const most = api.MaxMapped
	for _, c := range []struct {
		l              []api.Run
		page, to, many int
	}{
		{sample(), 0, 5, 2}, {sample(), 1, 6, 1}, {sample(), 2, -1, 1}, {sample(), 3, 7, 3}, {sample(), 4, 8, 2}, {sample(), 5, 9, 1},
		{list(5, 2, 7, 3), 1, 6, 4}, {list(-1, 1, -1, 2, 0, 1), 1, -1, 2}, {list(-1, 1, 0, 1), 0, -1, 1},
		{list(0, most), most - 1, most - 1, 1}, {list(-1, most), 5, -1, most - 5},
	} {
		if to, many, e := runs.Map(c.l, c.page); to != c.to || many != c.many || e != api.OK {
			t.Error(c, to, many, e)
		}
	}
	for _, l := range [][]api.Run{nil, sample(), list(-1, 6)} {
		for _, page := range []int{-1, math.MinInt, 6, 7, math.MaxInt} {
			want(t, seeNumbers(runs.Map(l, page)), api.ErrRange, l, page)
		}
	}
	want(t, seeNumbers(runs.Map(nil, 0)), api.ErrRange)
	r := chance()
	for range 500 {
		l := anyRuns(r)
		page := 0
		for _, x := range plainNorm(flat(l)) {
			for i := range x.Many {
				to := x.To
				if to != -1 {
					to += i
				}
				if got, many, e := runs.Map(l, page); got != to || many != x.Many-i || e != api.OK {
					t.Fatal(l, page, got, many, e)
				}
				page++
			}
		}
	}
}

func TestP4_2Where(t *testing.T) {
	for _, c := range []struct {
		l    []api.Run
		to   int
		want []int
	}{
		{nil, 0, nil}, {sample(), 5, []int{0}}, {sample(), 4, nil}, {sample(), 7, []int{3}}, {sample(), 9, []int{5}}, {sample(), 10, nil},
		{list(3, 2, 1, 4), 4, []int{1, 5}}, {list(4, 1, 4, 1), 4, []int{0, 1}}, {list(-1, 3), 0, nil}, {list(-1, 3), 1, nil},
		{list(-1, 3, 0, 1), 0, []int{3}}, {list(-1, 5, 0, 1), 3, nil}, {sample(), math.MaxInt, nil}, {sample(), api.MaxMapped, nil},
		{list(0, api.MaxMapped), api.MaxMapped - 1, []int{api.MaxMapped - 1}},
	} {
		if l, e := runs.Where(c.l, c.to); !slices.Equal(l, c.want) || e != api.OK {
			t.Error(c, l, e)
		}
	}
	all := slices.Repeat(list(9, 1), api.MaxRuns)
	if l, e := runs.Where(all, 9); len(l) != api.MaxRuns || !slices.IsSorted(l) || e != api.OK {
		t.Error(len(l), e)
	}
	for _, to := range []int{-1, -2, math.MinInt} {
		want(t, seePages(runs.Where(list(-1, 3), to)), api.ErrArg, to)
	}
	r := chance()
	for range 500 {
		l := anyRuns(r)
		for to := range 50 {
			var pages []int
			for page, x := range flat(l) {
				if x == to {
					pages = append(pages, page)
				}
			}
			if got, e := runs.Where(l, to); !slices.Equal(got, pages) || e != api.OK {
				t.Fatal(l, to, got, e)
			}
		}
	}
}
