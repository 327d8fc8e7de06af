package span

import (
	"iter"
	"slices"

	"archivolt/api"
)

// Bounds of layouts that package api does not name.
const (
	mostPages = 4096 // of a member
	mostChunk = 64
)

// array is a layout with what is reckoned from it.
type array struct {
	api.Layout
	many  int // members
	least int // pages of the smallest member
	whole int // pages of the whole chunks of the smallest member
}

// reckon returns the array of a layout that is within the bounds.
func reckon(l api.Layout) *array {
	least := slices.Min(l.Members)
	return &array{Layout: l, many: len(l.Members), least: least, whole: least - least%l.Chunk}
}

// across yields the spots with one page on all members.
func (a *array) across(page int) iter.Seq[api.Spot] {
	return func(yield func(api.Spot) bool) {
		for member := range a.many {
			if !yield(api.Spot{Member: member, Page: page}) {
				return
			}
		}
	}
}

// volume is a valid layout with its kind.
type volume struct {
	*array
	kind
}

// volumeOf returns the volume of a layout, and whether the layout is valid.
func volumeOf(l api.Layout) (volume, bool) {
	if !inBounds(l) {
		return volume{}, false
	}
	a := reckon(l)
	k, known := kinds(a)[l.Kind]
	if !known || !k.fits() {
		return volume{}, false
	}
	return volume{a, k}, true
}

// inBounds reports whether a layout keeps to what holds for all kinds.
func inBounds(l api.Layout) bool {
	for _, pages := range l.Members {
		if pages < 1 || pages > mostPages {
			return false
		}
	}
	return len(l.Members) >= 1 && len(l.Members) <= api.MaxDisks && l.Chunk >= 1 && l.Chunk <= mostChunk
}

// peers yields the spots from which a spot can be rebuilt.
func (v volume) peers(s api.Spot) iter.Seq[api.Spot] {
	return func(yield func(api.Spot) bool) {
		if s.Page >= v.depth() {
			return
		}
		for other := range v.across(s.Page) {
			if other != s && !yield(other) {
				return
			}
		}
	}
}

func (v volume) regions() int { return (v.depth() + v.Chunk - 1) / v.Chunk }

// members yields the spots of a region.
func (v volume) members(region int) iter.Seq[api.Spot] {
	return func(yield func(api.Spot) bool) {
		from := region * v.Chunk
		to := min(from+v.Chunk, v.depth())
		for member := range v.many {
			for page := from; page < to; page++ {
				if !yield(api.Spot{Member: member, Page: page}) {
					return
				}
			}
		}
	}
}

// state returns what is left if some members are dead.
func (v volume) state(isDead func(member int) bool) int {
	dead := 0
	for member := range v.many {
		if isDead(member) {
			dead++
		}
	}
	switch {
	case dead == 0:
		return api.StWhole
	case dead <= v.spare():
		return api.StDegraded
	}
	return api.StLost
}

// isPartOf reports whether all pages lie at the same spots by another volume.
func (v volume) isPartOf(other volume) bool {
	if v.size() > other.size() {
		return false
	}
	var mine, others []api.Spot
	for page := range v.size() {
		mine = slices.AppendSeq(mine[:0], v.spots(page))
		others = slices.AppendSeq(others[:0], other.spots(page))
		if !slices.Equal(mine, others) {
			return false
		}
	}
	return true
}
