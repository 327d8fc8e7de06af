package span_test

import (
	"math/rand"
	"slices"
	"testing"

	"archivolt/api"
	"archivolt/span"
)

// alike returns a layout that differs a little, perhaps not valid.
func alike(r *rand.Rand, l api.Layout) api.Layout {
	l.Members = slices.Clone(l.Members)
	for range r.Intn(3) {
		switch m := r.Intn(len(l.Members)); r.Intn(6) {
		case 0:
			l.Kind = 1 + r.Intn(5)
		case 1:
			l.Chunk += r.Intn(3) - 1
		case 2:
			l.Members[m]++
		case 3:
			l.Members[m] = max(1, l.Members[m]-1)
		case 4:
			l.Members = append(l.Members, 1+r.Intn(14))
		default:
			l.Members = l.Members[:max(1, len(l.Members)-1)]
		}
	}
	return l
}

// spotsOf returns all spots of a layout.
func spotsOf(l api.Layout) []api.Spot {
	var all []api.Spot
	for m, pages := range l.Members {
		for i := range pages {
			all = append(all, api.Spot{Member: m, Page: i})
		}
	}
	return all
}

// eachLayout does something for each of some layouts that are not too great.
func eachLayout(t *testing.T, do func(l api.Layout, size int)) {
	t.Helper()
	for _, l := range some() {
		size := good[int](t)(span.Size(l))
		if size > 1000 {
			continue
		}
		do(l, size)
		if t.Failed() {
			t.Fatal(l)
		}
	}
}

func TestP8_7ThereAndBack(t *testing.T) {
	eachLayout(t, func(l api.Layout, size int) {
		placed := map[api.Spot]lying{}
		for page := range size {
			row := good[[]int](t)(span.Row(l, page))
			for i, s := range good[[]api.Spot](t)(span.Place(l, page)) {
				x := pageOf(t, l, s)
				if isParity := l.Kind == api.SpParity && i == 1; isParity != (x.role == api.RoParity) || isParity && x.page != row[0] || !isParity && x.page != page {
					t.Error(page, s, x)
				}
				if other, is := placed[s]; is && (x.role != api.RoParity || other != x) {
					t.Error(page, s, x, other)
				}
				placed[s] = x
			}
		}
		for _, s := range spotsOf(l) {
			x := pageOf(t, l, s)
			if _, is := placed[s]; is != (x.role != api.RoFree) {
				t.Error(s, x)
			}
			if x.role != api.RoFree && !slices.Contains(good[[]api.Spot](t)(span.Place(l, x.page)), s) {
				t.Error(s, x)
			}
		}
	})
}

func TestP8_8OneMayGo(t *testing.T) {
	eachLayout(t, func(l api.Layout, _ int) {
		redundant := l.Kind == api.SpMirror || l.Kind == api.SpParity
		for m := range l.Members {
			dead := make([]bool, len(l.Members))
			dead[m] = true
			want := api.StLost
			if redundant {
				want = api.StDegraded
			}
			one(t, want)(span.State(l, dead))
		}
		for _, s := range spotsOf(l) {
			peers := good[[]api.Spot](t)(span.Peers(l, s))
			if free := pageOf(t, l, s).role == api.RoFree; (len(peers) > 0) != (redundant && !free) {
				t.Error(s, peers)
			}
			for _, other := range peers {
				if other.Member == s.Member || pageOf(t, l, other).role == api.RoFree {
					t.Error(s, peers)
				}
			}
		}
	})
}

// What is on a lost member is rebuilt from the peers: the sum of them, or any of the copies.
func TestP8_8Rebuilt(t *testing.T) {
	r := chance()
	eachLayout(t, func(l api.Layout, size int) {
		if l.Kind != api.SpMirror && l.Kind != api.SpParity {
			return
		}
		bytes := map[api.Spot]byte{}
		for page := range size {
			x := byte(r.Intn(256))
			for i, s := range good[[]api.Spot](t)(span.Place(l, page)) {
				if l.Kind == api.SpParity && i == 1 {
					bytes[s] ^= x
				} else {
					bytes[s] = x
				}
			}
		}
		for s, want := range bytes {
			peers := good[[]api.Spot](t)(span.Peers(l, s))
			var sum byte
			for _, other := range peers {
				sum ^= bytes[other]
				if l.Kind == api.SpMirror && bytes[other] != want {
					t.Error(s, other)
				}
			}
			if l.Kind == api.SpParity && sum != want {
				t.Error(s, peers)
			}
		}
	})
}

func TestP8_9Rows(t *testing.T) {
	eachLayout(t, func(l api.Layout, size int) {
		wide := 1
		if l.Kind == api.SpParity {
			wide = len(l.Members) - 1
		}
		rowOf := map[int][]int{}
		for page := range size {
			row := good[[]int](t)(span.Row(l, page))
			if len(row) != wide || !slices.IsSorted(row) || !slices.Contains(row, page) {
				t.Error(page, row)
			}
			on := map[int]bool{}
			for _, other := range row {
				// That all pages of a row have the same row makes the rows a partition.
				if known, is := rowOf[other]; is && !slices.Equal(known, row) {
					t.Error(page, row, known)
				}
				rowOf[other] = row
				spots := good[[]api.Spot](t)(span.Place(l, other))
				if on[spots[0].Member] {
					t.Error(row)
				}
				on[spots[0].Member] = true
			}
			for _, s := range good[[]api.Spot](t)(span.Place(l, page)) {
				if x := pageOf(t, l, s); x.role == api.RoParity && (on[s.Member] || x.page != row[0]) {
					t.Error(row, s)
				}
			}
		}
	})
}

func TestP8_10Regions(t *testing.T) {
	eachLayout(t, func(l api.Layout, size int) {
		many := good[int](t)(span.Regions(l))
		if (many > 0) != (l.Kind == api.SpMirror || l.Kind == api.SpParity) {
			t.Error(many)
		}
		in := map[api.Spot]int{}
		for region := range many {
			for _, s := range good[[]api.Spot](t)(span.Members(l, region)) {
				if other, is := in[s]; is {
					t.Error(s, region, other)
				}
				in[s] = region
			}
		}
		for page := range size {
			region := good[int](t)(span.Region(l, page))
			for _, other := range good[[]int](t)(span.Row(l, page)) {
				one(t, region)(span.Region(l, other))
			}
			for _, s := range good[[]api.Spot](t)(span.Place(l, page)) {
				if found, is := in[s]; is != (many > 0) || found != region {
					t.Error(page, s, region, found)
				}
			}
		}
		for _, s := range spotsOf(l) {
			if _, is := in[s]; is != (many > 0 && pageOf(t, l, s).role != api.RoFree) {
				t.Error(s)
			}
		}
	})
}

func TestP8_11Balance(t *testing.T) {
	eachLayout(t, func(l api.Layout, _ int) {
		if l.Kind != api.SpStripe && l.Kind != api.SpParity {
			return
		}
		used, parities := make([]int, len(l.Members)), make([]int, len(l.Members))
		for _, s := range spotsOf(l) {
			switch pageOf(t, l, s).role {
			case api.RoParity:
				used[s.Member]++
				parities[s.Member]++
			case api.RoData:
				used[s.Member]++
			}
		}
		if slices.Min(used) != slices.Max(used) || slices.Max(parities)-slices.Min(parities) > l.Chunk {
			t.Error(used, parities)
		}
		if (slices.Max(parities) > 0) != (l.Kind == api.SpParity) {
			t.Error(parities)
		}
	})
}

func TestP8_12Extending(t *testing.T) {
	r := chance()
	for _, l := range some() {
		one(t, true)(span.Extends(l, l))
		if l.Kind != api.SpConcat || len(l.Members) == 6 {
			continue
		}
		more := l
		more.Members = append(slices.Clone(l.Members), 1+r.Intn(4096))
		one(t, true)(span.Extends(l, more))
		one(t, false)(span.Extends(more, l))
	}
	chains := 0
	for range 30000 {
		a := anyLayout(r, 1+r.Intn(5))
		b := alike(r, a)
		c := alike(r, b)
		if span.Check(b) != api.OK || span.Check(c) != api.OK {
			continue
		}
		if good[bool](t)(span.Extends(a, b)) && good[bool](t)(span.Extends(b, c)) {
			chains++
			one(t, true)(span.Extends(a, c))
		}
	}
	if chains < 1000 {
		t.Error("only", chains, "chains")
	}
}
