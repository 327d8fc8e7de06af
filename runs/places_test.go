package runs_test

import (
	"slices"
	"testing"

	"archivolt/api"
	"archivolt/runs"
)

func TestP4_5Twice(t *testing.T) {
	const most = api.MaxMapped
	for _, c := range []struct {
		l  []api.Run
		to int
		is bool
	}{
		{nil, 0, false}, {sample(), 0, false}, {list(-1, 3, -1, 3), 0, false}, {list(-1, 3, 0, 1), 0, false}, {list(0, 1, -1, 9), 0, false},
		{list(3, 2, 1, 4), 3, true}, {list(1, 4, 3, 2), 3, true}, {list(0, 1, 0, 1), 0, true}, {list(0, 1, -1, 1, 0, 1), 0, true},
		{list(5, 2, 7, 3), 0, false}, {list(7, 3, 5, 2), 0, false}, {list(5, 3, 7, 3), 7, true}, {list(7, 3, 5, 3), 7, true},
		{list(9, 2, 10, 1, 4, 3, 6, 1), 6, true}, {list(0, 100, 50, 1, 20, 1), 20, true}, {list(50, 1, 20, 1, 0, 100), 20, true},
		{list(3, 1, 3, 5), 3, true}, {list(most-1, 1, -1, 1, most-1, 1), most - 1, true}, {list(0, most/2, most/2-1, most/2), most/2 - 1, true},
		{apart(api.MaxRuns), 0, false}, {append(apart(api.MaxRuns-1), list(30, 1)...), 30, true},
	} {
		if to, is, e := runs.Twice(c.l); to != c.to || is != c.is || e != api.OK {
			t.Error(c, to, is, e)
		}
	}
	r := chance()
	for range 5000 {
		l := anyRuns(r)
		pages := flat(l)
		slices.Sort(pages)
		least, found := 0, false
		for i, to := range pages {
			if i > 0 && to >= 0 && to == pages[i-1] {
				least, found = to, true
				break
			}
		}
		if to, is, e := runs.Twice(l); to != least || is != found || e != api.OK {
			t.Fatal(l, to, is, e)
		}
	}
}

func TestP4_5Shared(t *testing.T) {
	const most = api.MaxMapped
	for _, c := range []struct {
		a, b []api.Run
		to   int
		is   bool
	}{
		{nil, nil, 0, false}, {sample(), nil, 0, false}, {sample(), sample(), 5, true}, {sample(), list(9, 9), 9, true}, {sample(), list(10, 9), 0, false},
		{sample(), list(-1, 3), 0, false}, {list(-1, 3), list(-1, 3), 0, false}, {list(-1, 3), list(0, 3), 0, false}, {list(0, 1), list(0, 1), 0, true},
		{list(5, 2), list(7, 2), 0, false}, {list(5, 3), list(7, 2), 7, true}, {list(5, 9), list(7, 2), 7, true}, {list(3, 1, 3, 1), list(4, 1), 0, false},
		{list(20, 5, 1, 1), list(24, 1, 3, 1, 22, 1), 22, true}, {list(1, 2, 2, 5), list(4, 1, 0, 1), 4, true}, {list(10, 1), list(0, 20, 5, 1), 10, true},
		{list(most-1, 1), list(most-1, 1), most - 1, true}, {list(0, most), list(7, 1), 7, true}, {apart(api.MaxRuns), list(999, 1, 1999, 1), 0, false},
		{apart(api.MaxRuns), list(999, 2), 1000, true},
	} {
		if to, is, e := runs.Shared(c.a, c.b); to != c.to || is != c.is || e != api.OK {
			t.Error(c, to, is, e)
		}
		if to, is, e := runs.Shared(c.b, c.a); to != c.to || is != c.is || e != api.OK {
			t.Error("the other way", c, to, is, e)
		}
	}
	r := chance()
	for range 5000 {
		a, b := anyRuns(r), anyRuns(r)
		for i := range b {
			if b[i].To >= 0 {
				b[i].To += r.Intn(40)
			}
		}
		least, found := 0, false
		for _, to := range flat(a) {
			if to >= 0 && slices.Contains(flat(b), to) && (!found || to < least) {
				least, found = to, true
			}
		}
		if to, is, e := runs.Shared(a, b); to != least || is != found || e != api.OK {
			t.Fatal(a, b, to, is, e)
		}
	}
}
