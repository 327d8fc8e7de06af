package runs_test

import (
	"bytes"
	"slices"
	"testing"

	"archivolt/api"
	"archivolt/runs"
)

// told returns where each page of a stream lies, as Map says.
func told(t *testing.T, l []api.Run) []int {
	t.Helper()
	n, _, e := runs.Size(l)
	if e != api.OK {
		t.Fatal(l, e)
	}
	all := make([]int, n)
	for page := range all {
		to, _ := good2[int, int](t)(runs.Map(l, page))
		all[page] = to
	}
	return all
}

// same ends a test if two mappings are not Same.
func same(t *testing.T, a, b []api.Run) {
	t.Helper()
	if !good[bool](t)(runs.Same(a, b)) {
		t.Fatal(a, b)
	}
}

func TestP4_8Pages(t *testing.T) {
	r := chance()
	for range 1000 {
		a, b := anyRuns(r), anyRuns(r)
		if r.Intn(2) == 0 {
			b = split(r, a)
		}
		if is := good[bool](t)(runs.Same(a, b)); is != slices.Equal(told(t, a), told(t, b)) {
			t.Fatal(a, b, is)
		}
	}
}

func TestP4_8Edits(t *testing.T) {
	r := chance()
	equal := func(got []api.Run, want ...[]int) {
		t.Helper()
		if !slices.Equal(told(t, got), slices.Concat(want...)) {
			t.Fatal(got, want)
		}
	}
	lists := good2[[]api.Run, []api.Run](t)
	for range 2000 {
		l, more := anyRuns(r), anyRuns(r)
		pages, others := told(t, l), told(t, more)
		page := r.Intn(len(pages) + 1)
		many := r.Intn(len(pages) - page + 1)
		holes := slices.Repeat([]int{-1}, many)
		a, b := lists(runs.Cut(l, page))
		equal(a, pages[:page])
		equal(b, pages[page:])
		equal(good[[]api.Run](t)(runs.Join(l, more)), pages, others)
		equal(good[[]api.Run](t)(runs.Insert(l, page, more)), pages[:page], others, pages[page:])
		a, b = lists(runs.Remove(l, page, many))
		equal(a, pages[:page], pages[page+many:])
		equal(b, pages[page:page+many])
		a, b = lists(runs.Punch(l, page, many))
		equal(a, pages[:page], holes, pages[page+many:])
		equal(b, pages[page:page+many])
		end := min(len(pages), page+len(others))
		a, b = lists(runs.Put(l, page, more))
		equal(a, pages[:page], others, pages[end:])
		equal(b, pages[page:end])
	}
}

func TestP4_9Undone(t *testing.T) {
	r := chance()
	lists := good2[[]api.Run, []api.Run](t)
	for range 3000 {
		l, more := anyRuns(r), anyRuns(r)
		pages := len(flat(l))
		page := r.Intn(pages + 1)
		many := r.Intn(pages - page + 1)
		a, b := lists(runs.Cut(l, page))
		same(t, good[[]api.Run](t)(runs.Join(a, b)), l)
		a, b = lists(runs.Remove(good[[]api.Run](t)(runs.Insert(l, page, more)), page, len(flat(more))))
		same(t, a, l)
		same(t, b, more)
		a, b = lists(runs.Punch(l, page, many))
		a, _ = lists(runs.Put(a, page, b))
		same(t, a, l)
		a, b = lists(runs.Put(l, page, more))
		if page+len(flat(more)) <= pages {
			a, b = lists(runs.Put(a, page, b))
			same(t, a, l)
			same(t, b, more)
		}
	}
}

func TestP4_10Packed(t *testing.T) {
	r := chance()
	for range 3000 {
		l := manySizes(t, r.Intn)
		b, pages := good2[[]byte, int](t)(runs.Pack(l, 1000))
		if n, _, _ := runs.Size(l); n != pages {
			t.Fatal(l, b, pages)
		}
		got, n := good2[[]api.Run, int](t)(runs.Unpack(b))
		if !slices.Equal(got, l) || n != len(b) {
			t.Fatal(l, b, got, n)
		}
		again, _ := good2[[]byte, int](t)(runs.Pack(got, len(b)))
		if !bytes.Equal(again, b) {
			t.Fatal(l, b, again)
		}
	}
}

// What fits are the first runs; with the room that it needs it fits again, with less it does not, and one run more does not fit.
func TestP4_10Room(t *testing.T) {
	r := chance()
	for range 3000 {
		l := manySizes(t, r.Intn)
		most := 1 + r.Intn(80)
		b, pages := good2[[]byte, int](t)(runs.Pack(l, most))
		got, _ := good2[[]api.Run, int](t)(runs.Unpack(b))
		if n, _, _ := runs.Size(got); len(b) > most || !slices.Equal(got, l[:len(got)]) || n != pages {
			t.Fatal(l, most, b, pages)
		}
		again, n := good2[[]byte, int](t)(runs.Pack(l, len(b)))
		if !bytes.Equal(again, b) || n != pages {
			t.Fatal(l, len(b), again, n)
		}
		if pages > 0 {
			if _, n := good2[[]byte, int](t)(runs.Pack(l, len(b)-1)); n >= pages {
				t.Fatal(l, len(b)-1, n)
			}
		}
		if len(got) < len(l) {
			more, _ := good2[[]byte, int](t)(runs.Pack(l[:len(got)+1], 1000))
			if len(more) <= most {
				t.Fatal(l, most, b, more)
			}
		}
	}
}

// fewest returns how few runs a mapping of pages that lie there can have, tried out.
func fewest(pages []int) int {
	least := make([]int, len(pages)+1) // of the first pages
	for end := 1; end <= len(pages); end++ {
		least[end] = end
		for from := range end {
			is := true
			for i := from + 1; i < end; i++ {
				is = is && (pages[from] == -1 && pages[i] == -1 || pages[from] != -1 && pages[i] == pages[from]+i-from)
			}
			if is {
				least[end] = min(least[end], least[from]+1)
			}
		}
	}
	return least[len(pages)]
}

func TestP4_11Normal(t *testing.T) {
	r := chance()
	ok := good[[]api.Run](t)
	for range 2000 {
		l := anyRuns(r)
		normal := ok(runs.Norm(l))
		if !slices.Equal(ok(runs.Norm(normal)), normal) || !slices.Equal(ok(runs.Norm(split(r, l))), normal) {
			t.Fatal(l, normal)
		}
		if len(normal) != fewest(flat(l)) || !slices.Equal(flat(normal), flat(l)) {
			t.Fatal(l, normal)
		}
	}
}

// All mappings that are returned are in the normal form, also where arguments meet.
func TestP4_11Results(t *testing.T) {
	r := chance()
	normal := func(all ...[]api.Run) {
		t.Helper()
		for _, l := range all {
			if !slices.Equal(good[[]api.Run](t)(runs.Norm(l)), l) {
				t.Fatal(l)
			}
		}
	}
	lists := func(a, b []api.Run, e api.Errno) {
		t.Helper()
		normal(a, b)
	}
	for range 2000 {
		l, more := split(r, anyRuns(r)), split(r, anyRuns(r))
		pages := len(flat(l))
		page := r.Intn(pages + 1)
		many := r.Intn(pages - page + 1)
		lists(runs.Cut(l, page))
		lists(runs.Remove(l, page, many))
		lists(runs.Punch(l, page, many))
		lists(runs.Put(l, page, more))
		lists(runs.Put(l, page, nil))
		normal(good[[]api.Run](t)(runs.Join(l, more)), good[[]api.Run](t)(runs.Insert(l, page, more)))
	}
}

func TestP4_12Counts(t *testing.T) {
	r := chance()
	size := good2[int, int](t)
	for range 2000 {
		l := anyRuns(r)
		pages, taken := size(runs.Size(l))
		var all []int
		for to := range 80 {
			all = append(all, good[[]int](t)(runs.Where(l, to))...)
		}
		slices.Sort(all)
		if len(all) != taken || len(slices.Compact(all)) != taken {
			t.Fatal(l, taken, all)
		}
		_, twice, _ := runs.Twice(l)
		for to := range 80 {
			if at, _ := runs.Where(l, to); !twice && len(at) > 1 {
				t.Fatal(l, to, at)
			}
		}
		page := r.Intn(pages + 1)
		rest, out := good2[[]api.Run, []api.Run](t)(runs.Punch(l, page, r.Intn(pages-page+1)))
		_, left := size(runs.Size(rest))
		_, gone := size(runs.Size(out))
		if left != taken-gone {
			t.Fatal(l, rest, out)
		}
	}
}
