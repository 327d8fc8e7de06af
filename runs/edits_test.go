package runs_test

import (
	"math"
	"slices"
	"testing"

	"archivolt/api"
	"archivolt/runs"
)

func TestP4_3Cut(t *testing.T) {
	const most = api.MaxMapped
	two(t, []int{5, 6, -1, 7}, []int{8, 9})(runs.Cut(sample(), 4))
	two(t, nil, []int{5, 6, -1, 7, 8, 9})(runs.Cut(sample(), 0))
	two(t, []int{5, 6, -1, 7, 8, 9}, nil)(runs.Cut(sample(), 6))
	two(t, nil, nil)(runs.Cut(nil, 0))
	two(t, []int{-1}, []int{-1, -1})(runs.Cut(list(-1, 3), 1))
	a, b, e := runs.Cut(list(0, most), most-2)
	if !slices.Equal(a, list(0, most-2)) || !slices.Equal(b, list(most-2, 2)) || e != api.OK {
		t.Error(a, b, e)
	}
	for _, page := range []int{-1, math.MinInt, 7, math.MaxInt} {
		want(t, seeLists(runs.Cut(sample(), page)), api.ErrRange, page)
	}
	want(t, seeLists(runs.Cut(nil, 1)), api.ErrRange)
	r := chance()
	for range 1000 {
		l := anyRuns(r)
		pages := flat(l)
		for page := range len(pages) + 1 {
			two(t, pages[:page], pages[page:])(runs.Cut(l, page))
		}
		want(t, seeLists(runs.Cut(l, len(pages)+1)), api.ErrRange)
	}
}

func TestP4_3Join(t *testing.T) {
	one(t, nil)(runs.Join(nil, nil))
	one(t, []int{5, 6, 7, 8})(runs.Join(list(5, 2), list(7, 2)))
	one(t, []int{7, 8, 5, 6})(runs.Join(list(7, 2), list(5, 2)))
	one(t, []int{-1, -1, -1})(runs.Join(list(-1, 1), list(-1, 2)))
	one(t, []int{-1, 0})(runs.Join(list(-1, 1), list(0, 1)))
	r := chance()
	for range 1000 {
		a, b := anyRuns(r), anyRuns(r)
		one(t, slices.Concat(flat(a), flat(b)))(runs.Join(a, b))
		one(t, slices.Concat(flat(a), flat(a)))(runs.Join(a, a))
	}
}

func TestP4_3Insert(t *testing.T) {
	one(t, []int{5, 40, 6, -1, 7, 8, 9})(runs.Insert(sample(), 1, list(40, 1)))
	one(t, []int{5, 6, -1, -1, 7, 8, 9})(runs.Insert(sample(), 2, list(-1, 1)))
	one(t, []int{4, 5, 6, -1, 7, 8, 9})(runs.Insert(sample(), 0, list(4, 1)))
	one(t, []int{5, 6, -1, 7, 8, 9, 10})(runs.Insert(sample(), 6, list(10, 1)))
	one(t, []int{1, 2, 3})(runs.Insert(list(1, 1, 3, 1), 1, list(2, 1)))
	one(t, []int{7})(runs.Insert(nil, 0, list(7, 1)))
	one(t, flat(sample()))(runs.Insert(sample(), 3, nil))
	for _, more := range [][]api.Run{nil, list(1, 1)} {
		for _, page := range []int{-1, math.MinInt, 7, math.MaxInt} {
			want(t, seeList(runs.Insert(sample(), page, more)), api.ErrRange, page)
		}
	}
	r := chance()
	for range 1000 {
		l, more := anyRuns(r), anyRuns(r)
		pages := flat(l)
		for page := range len(pages) + 1 {
			one(t, slices.Insert(slices.Clone(pages), page, flat(more)...))(runs.Insert(l, page, more))
		}
	}
}

func TestP4_4Remove(t *testing.T) {
	two(t, []int{5, 6, 7, 8, 9}, []int{-1})(runs.Remove(sample(), 2, 1))
	two(t, []int{5, 9}, []int{6, -1, 7, 8})(runs.Remove(sample(), 1, 4))
	two(t, nil, flat(sample()))(runs.Remove(sample(), 0, 6))
	two(t, flat(sample()), nil)(runs.Remove(sample(), 3, 0))
	two(t, flat(sample()), nil)(runs.Remove(sample(), 6, 0))
	two(t, nil, nil)(runs.Remove(nil, 0, 0))
	two(t, []int{-1, -1}, []int{4})(runs.Remove(list(-1, 1, 4, 1, -1, 1), 1, 1))
	r := chance()
	for range 500 {
		l := anyRuns(r)
		pages := flat(l)
		for page := range len(pages) + 1 {
			for many := range len(pages) - page + 1 {
				rest := slices.Concat(pages[:page], pages[page+many:])
				two(t, rest, pages[page:page+many])(runs.Remove(l, page, many))
			}
		}
	}
}

func TestP4_4Punch(t *testing.T) {
	two(t, []int{-1, -1, -1, 7, 8, 9}, []int{5, 6})(runs.Punch(sample(), 0, 2))
	two(t, []int{5, 6, -1, 7, -1, 9}, []int{8})(runs.Punch(sample(), 4, 1))
	two(t, flat(sample()), []int{-1})(runs.Punch(sample(), 2, 1))
	two(t, flat(sample()), nil)(runs.Punch(sample(), 0, 0))
	two(t, flat(sample()), nil)(runs.Punch(sample(), 6, 0))
	two(t, []int{-1, -1, -1, -1, -1, -1}, flat(sample()))(runs.Punch(sample(), 0, 6))
	two(t, nil, nil)(runs.Punch(nil, 0, 0))
	r := chance()
	for range 500 {
		l := anyRuns(r)
		pages := flat(l)
		for page := range len(pages) + 1 {
			for many := range len(pages) - page + 1 {
				rest := slices.Concat(pages[:page], slices.Repeat([]int{-1}, many), pages[page+many:])
				two(t, rest, pages[page:page+many])(runs.Punch(l, page, many))
			}
		}
	}
}

func TestP4_4PagesThatAreNotThere(t *testing.T) {
	for _, c := range []struct{ page, many int }{
		{-1, 0}, {-1, 1}, {-1, 7}, {0, -1}, {3, -1}, {6, 1}, {7, 0}, {5, 2}, {0, 7}, {7, -1}, {8, -2},
		{math.MaxInt, 1}, {1, math.MaxInt}, {math.MaxInt, math.MaxInt}, {math.MinInt, 0}, {0, math.MinInt}, {math.MinInt, math.MinInt}, {math.MinInt, math.MaxInt},
	} {
		want(t, seeLists(runs.Remove(sample(), c.page, c.many)), api.ErrRange, c)
		want(t, seeLists(runs.Punch(sample(), c.page, c.many)), api.ErrRange, c)
	}
}

func TestP4_4Put(t *testing.T) {
	two(t, []int{5, 6, -1, 7, 8, 1, 2}, []int{9})(runs.Put(sample(), 5, list(1, 2)))
	two(t, []int{-1, -1, 9}, nil)(runs.Put(nil, 2, list(9, 1)))
	two(t, []int{9}, nil)(runs.Put(nil, 0, list(9, 1)))
	two(t, []int{5, 6, -1, 7, 8, 9, 10}, nil)(runs.Put(sample(), 6, list(10, 1)))
	two(t, []int{5, 6, -1, 7, 8, 9, -1, 10}, nil)(runs.Put(sample(), 7, list(10, 1)))
	two(t, []int{4, -1, -1, -1, -1}, nil)(runs.Put(list(4, 1, -1, 1), 4, list(-1, 1)))
	two(t, []int{5, 6, 4, 7, 8, 9}, []int{-1})(runs.Put(sample(), 2, list(4, 1)))
	two(t, []int{-1, -1, -1, 7, 8, 9}, []int{5, 6})(runs.Put(sample(), 0, list(-1, 2)))
	two(t, []int{1, 2, 3, 4, 5, 6, 7, 8}, flat(sample()))(runs.Put(sample(), 0, list(1, 8)))
	r := chance()
	for range 1000 {
		l, more := anyRuns(r), anyRuns(r)
		for page := range len(flat(l)) + 5 {
			pages, others := flat(l), flat(more)
			var out []int
			for i, to := range others {
				if page+i < len(pages) {
					out = append(out, pages[page+i])
				}
				for len(pages) <= page+i {
					pages = append(pages, -1)
				}
				pages[page+i] = to
			}
			two(t, pages, out)(runs.Put(l, page, more))
		}
	}
}

// With no pages nothing changes, wherever they are put, and a stream does not grow.
func TestP4_4PutNothing(t *testing.T) {
	for _, page := range []int{0, 1, 2, 6, 7, 1000, api.MaxMapped} {
		two(t, flat(sample()), nil)(runs.Put(sample(), page, nil))
		two(t, nil, nil)(runs.Put(nil, page, []api.Run{}))
		two(t, []int{3, 4}, nil)(runs.Put(list(3, 1, 4, 1), page, nil))
	}
}

func TestP4_4PutPages(t *testing.T) {
	const most = api.MaxMapped
	for _, more := range [][]api.Run{nil, list(1, 1), list(0, most)} {
		for _, page := range []int{-1, math.MinInt, most + 1, math.MaxInt} {
			want(t, seeLists(runs.Put(sample(), page, more)), api.ErrRange, page, more)
		}
	}
	l, out, e := runs.Put(sample(), most-1, list(2, 1))
	if !slices.Equal(l, list(5, 2, -1, 1, 7, 3, -1, most-7, 2, 1)) || len(out) != 0 || e != api.OK {
		t.Error(l, out, e)
	}
	l, out, e = runs.Put(list(0, most), most-2, list(2, 2))
	if !slices.Equal(l, list(0, most-2, 2, 2)) || !slices.Equal(out, list(most-2, 2)) || e != api.OK {
		t.Error(l, out, e)
	}
}

// wide is a mapping of n runs, of which the last one has three pages, the first of them the page n - 1.
func wide(n int) []api.Run { return append(apart(n-1), api.Run{To: 10000, Many: 3}) }

// Results of too many pages, or of too many runs in the normal form.
func TestP4_3P4_4TooMuch(t *testing.T) {
	const most, full = api.MaxMapped, api.MaxRuns
	for i, s := range []seen{
		seeList(runs.Join(list(0, most), list(-1, 1))),
		seeList(runs.Join(list(-1, most), list(-1, 1))),
		seeList(runs.Join(list(0, most), list(0, most))),
		seeList(runs.Join(apart(full), list(9000, 1))),
		seeList(runs.Join(apart(full), apart(full))),
		seeList(runs.Insert(list(0, most), 5, list(7, 1))),
		seeList(runs.Insert(apart(full), 0, list(9000, 1))),
		seeList(runs.Insert(apart(full), 700, apart(full))),
		seeList(runs.Insert(wide(full-1), full-1, list(9, 1))),
		seeLists(runs.Remove(wide(full), full, 1)),
		seeLists(runs.Punch(wide(full), full, 1)),
		seeLists(runs.Punch(wide(full), full-1, 1)),
		seeLists(runs.Punch(wide(full-1), full-1, 1)),
		seeLists(runs.Put(nil, most, list(9, 1))),
		seeLists(runs.Put(nil, most-1, list(9, 2))),
		seeLists(runs.Put(nil, 1, list(0, most))),
		seeLists(runs.Put(list(0, most), most, list(-1, 1))),
		seeLists(runs.Put(apart(full), full, list(9000, 1))),
		seeLists(runs.Put(apart(full-1), full, list(9000, 1))),
		seeLists(runs.Put(wide(full), full, list(9, 1))),
	} {
		want(t, s, api.ErrLimit, i)
	}
}

// Results of as many runs, or pages, as there may be, also of arguments that have more of them.
func TestP4_3P4_4JustEnough(t *testing.T) {
	const most, full = api.MaxMapped, api.MaxRuns
	check := func(many, pages int) func([]api.Run, api.Errno) {
		return func(l []api.Run, e api.Errno) {
			t.Helper()
			if len(l) != many || e != api.OK {
				t.Error(len(l), "runs,", e)
			}
			if n, _, e := runs.Size(l); n != pages || e != api.OK {
				t.Error(n, "pages,", e)
			}
		}
	}
	rest := func(many, pages int) func(l, _ []api.Run, e api.Errno) {
		return func(l, _ []api.Run, e api.Errno) {
			t.Helper()
			check(many, pages)(l, e)
		}
	}
	check(full, full)(runs.Norm(apart(full)))
	check(1, full)(runs.Norm(slices.Repeat(list(-1, 1), full)))
	check(full, full)(runs.Join(apart(full-1), list(9000, 1)))
	check(full, full+1)(runs.Join(apart(full), list(2*full-1, 1)))
	check(1, 2*full)(runs.Join(slices.Repeat(list(-1, 1), full), slices.Repeat(list(-1, 1), full)))
	check(2, most)(runs.Join(list(0, most-1), list(-1, 1)))
	check(3, most)(runs.Insert(list(0, most-1), 5, list(-1, 1)))
	check(full-1, full+1)(runs.Insert(apart(full), 1, list(1, 1)))
	check(full, full+1)(runs.Insert(apart(full), full, list(2*full-1, 1)))
	rest(full, full)(runs.Remove(wide(full-1), full-1, 1))
	rest(full, full)(runs.Punch(wide(full-2), full-2, 1))
	rest(full, full)(runs.Put(apart(full-2), full-1, list(9000, 1)))
	rest(2, most)(runs.Put(nil, most-1, list(9, 1)))
	rest(1, most)(runs.Put(list(7, most-7), 0, list(0, most)))
	rest(full-1, full)(runs.Put(apart(full), 1, list(1, 1)))
}
