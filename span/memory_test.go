package span_test

import (
	"slices"
	"testing"

	"archivolt/api"
	"archivolt/span"
)

// calls makes all calls for all pages, spots and regions of a layout, and returns their lists.
func calls(l api.Layout, dead []bool) (spots [][]api.Spot, pages [][]int) {
	size, _ := span.Size(l)
	for page := range size {
		a, _ := span.Place(l, page)
		b, _ := span.Row(l, page)
		span.Region(l, page)
		spots, pages = append(spots, a), append(pages, b)
	}
	for _, s := range spotsOf(l) {
		span.Page(l, s)
		a, _ := span.Peers(l, s)
		spots = append(spots, a)
	}
	many, _ := span.Regions(l)
	for region := range many {
		a, _ := span.Members(l, region)
		spots = append(spots, a)
	}
	span.Check(l)
	span.State(l, dead)
	span.Extends(l, l)
	return spots, pages
}

// R6: arguments are not modified, also behind their ends.
func TestR6Arguments(t *testing.T) {
	for _, kind := range kinds() {
		members := slices.Repeat([]int{9, 7, 8}, 3)
		dead := slices.Repeat([]bool{false, true}, 5)
		many := fewest(kind)
		calls(layout(kind, 2, members[:many]...), dead[:many])
		if !slices.Equal(members, slices.Repeat([]int{9, 7, 8}, 3)) || !slices.Equal(dead, slices.Repeat([]bool{false, true}, 5)) {
			t.Error(kind, members, dead)
		}
	}
}

// R6: results share no memory with an argument, or with each other.
func TestR6Results(t *testing.T) {
	for _, kind := range kinds() {
		l := layout(kind, 2, slices.Repeat([]int{9}, fewest(kind))...)
		spots, pages := calls(l, make([]bool, len(l.Members)))
		again, rows := calls(l, make([]bool, len(l.Members)))
		for i := range spots {
			clear(spots[i][:cap(spots[i])])
		}
		for i := range pages {
			clear(pages[i][:cap(pages[i])])
		}
		third, others := calls(l, make([]bool, len(l.Members)))
		if !slices.EqualFunc(again, third, slices.Equal[[]api.Spot]) || !slices.EqualFunc(rows, others, slices.Equal[[]int]) {
			t.Error(kind)
		}
		for i := range again {
			clear(again[i][:cap(again[i])])
			for k := i + 1; k < len(again); k++ {
				if !slices.Equal(again[k], third[k]) {
					t.Fatal(kind, i, k)
				}
			}
		}
		if slices.Min(l.Members) != 9 {
			t.Error(kind, l)
		}
	}
}

// R7: what one call was asked changes nothing that another one answers.
func TestR7State(t *testing.T) {
	r := chance()
	for range 200 {
		a, b := anyLayout(r, 1+r.Intn(5)), anyLayout(r, 1+r.Intn(5))
		before, rows := calls(a, make([]bool, len(a.Members)))
		calls(b, make([]bool, len(b.Members)))
		after, others := calls(a, make([]bool, len(a.Members)))
		if !slices.EqualFunc(before, after, slices.Equal[[]api.Spot]) || !slices.EqualFunc(rows, others, slices.Equal[[]int]) {
			t.Fatal(a, b)
		}
	}
}
