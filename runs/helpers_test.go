package runs_test

import (
	"math"
	"math/rand"
	"slices"
	"testing"

	"archivolt/api"
	"archivolt/runs"
)

// chance returns a source of numbers that are the same in each run.
func chance() *rand.Rand { return rand.New(rand.NewSource(1)) }

// hole is a run of pages that lie nowhere.
func hole(many int) api.Run { return api.Run{To: api.RnHole, Many: many} }

// list is the mapping with the runs To, Many, To, Many, ..
func list(numbers ...int) []api.Run {
	var l []api.Run
	for i := 0; i < len(numbers); i += 2 {
		l = append(l, api.Run{To: numbers[i], Many: numbers[i+1]})
	}
	return l
}

// sample is the mapping of the chapter's examples.
func sample() []api.Run { return list(5, 2, -1, 1, 7, 3) }

// apart is a mapping of n runs that cannot be joined, of one page each.
func apart(n int) []api.Run {
	l := make([]api.Run, n)
	for i := range l {
		l[i] = api.Run{To: 2 * i, Many: 1}
	}
	return l
}

// flat returns where each page of a stream lies.
func flat(l []api.Run) []int {
	var all []int
	for _, r := range l {
		for i := range r.Many {
			if r.To == -1 {
				all = append(all, -1)
			} else {
				all = append(all, r.To+i)
			}
		}
	}
	return all
}

// plainNorm is the normal form of the mapping of pages that lie there.
func plainNorm(pages []int) []api.Run {
	var l []api.Run
	for i, to := range pages {
		if i > 0 && (to == -1 && pages[i-1] == -1 || to != -1 && pages[i-1] != -1 && to == pages[i-1]+1) {
			l[len(l)-1].Many++
		} else {
			l = append(l, api.Run{To: to, Many: 1})
		}
	}
	return l
}

// anyRuns returns a mapping, often not in the normal form, with pages that often lie twice, and often at 0.
func anyRuns(r *rand.Rand) []api.Run {
	var l []api.Run
	most := 1 + r.Intn(40)
	for range r.Intn(8) {
		x := api.Run{To: r.Intn(most), Many: 1 + r.Intn(5)}
		switch n := len(l); r.Intn(4) {
		case 0:
			x.To = -1
		case 1:
			if n > 0 && l[n-1].To >= 0 {
				x.To = l[n-1].To + l[n-1].Many
			}
		}
		l = append(l, x)
	}
	return l
}

// split returns the same pages in other runs.
func split(r *rand.Rand, l []api.Run) []api.Run {
	var all []api.Run
	for _, x := range l {
		for x.Many > 0 {
			n := 1 + r.Intn(x.Many)
			all = append(all, api.Run{To: x.To, Many: n})
			x.Many -= n
			if x.To != -1 {
				x.To += n
			}
		}
	}
	return all
}

// one returns a check of a call that returns a mapping of the pages that lie there.
func one(t *testing.T, pages []int) func(l []api.Run, e api.Errno) {
	return func(l []api.Run, e api.Errno) {
		t.Helper()
		if !slices.Equal(l, plainNorm(pages)) || e != api.OK {
			t.Fatal(l, e, "instead of", plainNorm(pages))
		}
	}
}

// two is one for two mappings.
func two(t *testing.T, first, second []int) func(a, b []api.Run, e api.Errno) {
	return func(a, b []api.Run, e api.Errno) {
		t.Helper()
		one(t, first)(a, e)
		one(t, second)(b, e)
	}
}

// good returns a function that returns what a call does, and wants no error.
func good[T any](t *testing.T) func(T, api.Errno) T {
	return func(x T, e api.Errno) T {
		t.Helper()
		if e != api.OK {
			t.Fatal(e)
		}
		return x
	}
}

// good2 is good for two results.
func good2[A, B any](t *testing.T) func(A, B, api.Errno) (A, B) {
	return func(a A, b B, e api.Errno) (A, B) {
		t.Helper()
		if e != api.OK {
			t.Fatal(e)
		}
		return a, b
	}
}

// seen is what a call returns: its error, and whether all else is zero.
type seen struct {
	zero bool
	e    api.Errno
}

func seeList(l []api.Run, e api.Errno) seen        { return seen{len(l) == 0, e} }
func seeLists(a, b []api.Run, e api.Errno) seen    { return seen{len(a) == 0 && len(b) == 0, e} }
func seeIs(is bool, e api.Errno) seen              { return seen{!is, e} }
func seeNumbers(a, b int, e api.Errno) seen        { return seen{a == 0 && b == 0, e} }
func seePages(l []int, e api.Errno) seen           { return seen{len(l) == 0, e} }
func seePlace(to int, is bool, e api.Errno) seen   { return seen{to == 0 && !is, e} }
func seePacked(b []byte, n int, e api.Errno) seen  { return seen{len(b) == 0 && n == 0, e} }
func seeRuns(l []api.Run, n int, e api.Errno) seen { return seen{len(l) == 0 && n == 0, e} }
func (s seen) fails(e api.Errno) bool              { return s == seen{true, e} }
func want(t *testing.T, s seen, e api.Errno, of ...any) {
	t.Helper()
	if !s.fails(e) {
		t.Error(s, "instead of", e, of)
	}
}

// call is a function of mappings; another argument of it is valid, or not (if there is one).
type call struct {
	name  string
	two   bool
	do    func(a, b []api.Run) seen
	wrong func(a, b []api.Run) seen
}

// calls returns all functions whose first errors are those of mappings.
func calls() []call {
	return []call{
		{name: "Valid", do: func(a, _ []api.Run) seen { return seen{true, runs.Valid(a)} }},
		{name: "Norm", do: func(a, _ []api.Run) seen { return seeList(runs.Norm(a)) }},
		{name: "Same", two: true, do: func(a, b []api.Run) seen { return seeIs(runs.Same(a, b)) }},
		{name: "Size", do: func(a, _ []api.Run) seen { return seeNumbers(runs.Size(a)) }},
		{name: "Map", do: func(a, _ []api.Run) seen { return seeNumbers(runs.Map(a, 0)) },
			wrong: func(a, _ []api.Run) seen { return seeNumbers(runs.Map(a, -1)) }},
		{name: "Where", do: func(a, _ []api.Run) seen { return seePages(runs.Where(a, 0)) },
			wrong: func(a, _ []api.Run) seen { return seePages(runs.Where(a, -1)) }},
		{name: "Cut", do: func(a, _ []api.Run) seen { return seeLists(runs.Cut(a, 0)) },
			wrong: func(a, _ []api.Run) seen { return seeLists(runs.Cut(a, -1)) }},
		{name: "Join", two: true, do: func(a, b []api.Run) seen { return seeList(runs.Join(a, b)) }},
		{name: "Insert", two: true, do: func(a, b []api.Run) seen { return seeList(runs.Insert(a, 0, b)) },
			wrong: func(a, b []api.Run) seen { return seeList(runs.Insert(a, -1, b)) }},
		{name: "Remove", do: func(a, _ []api.Run) seen { return seeLists(runs.Remove(a, 0, 0)) },
			wrong: func(a, _ []api.Run) seen { return seeLists(runs.Remove(a, 0, -1)) }},
		{name: "Punch", do: func(a, _ []api.Run) seen { return seeLists(runs.Punch(a, 0, 0)) },
			wrong: func(a, _ []api.Run) seen { return seeLists(runs.Punch(a, -1, 0)) }},
		{name: "Put", two: true, do: func(a, b []api.Run) seen { return seeLists(runs.Put(a, 0, b)) },
			wrong: func(a, b []api.Run) seen { return seeLists(runs.Put(a, -1, b)) }},
		{name: "Twice", do: func(a, _ []api.Run) seen { return seePlace(runs.Twice(a)) }},
		{name: "Shared", two: true, do: func(a, b []api.Run) seen { return seePlace(runs.Shared(a, b)) }},
		{name: "Pack", do: func(a, _ []api.Run) seen { return seePacked(runs.Pack(a, 100)) }},
	}
}

// notValid returns mappings that are wrong in one way each, ErrArg.
func notValid() [][]api.Run {
	const most = api.MaxMapped
	full := apart(api.MaxRuns)
	full[api.MaxRuns-1].Many = 0
	return [][]api.Run{
		list(0, 0), list(-1, 0), list(5, -1), list(-1, -1), list(5, math.MinInt), list(-1, math.MaxInt), list(0, math.MaxInt),
		list(-2, 1), list(math.MinInt, 1), list(math.MaxInt, 1), list(math.MaxInt, math.MaxInt), list(math.MinInt, math.MinInt),
		list(most, 1), list(most-1, 2), list(1, most), list(0, most+1), list(-1, most+1),
		list(-1, most, 0, 1), list(0, most, -1, 1), list(0, most, 0, most), list(-1, most-1, 7, 2),
		list(5, 2, -1, 1, 7, 0), list(0, 0, 5, 2), full,
	}
}

// tooLong returns mappings of too many runs, which are also not valid otherwise, or would have few runs in the normal form.
func tooLong() [][]api.Run {
	return [][]api.Run{apart(api.MaxRuns + 1), make([]api.Run, api.MaxRuns+1), slices.Repeat(list(-1, 1), api.MaxRuns+1)}
}
