package disk

import (
	"iter"
	"maps"
	"slices"

	"archivolt/api"
)

// put is a write of a sector.
type put struct {
	at  int
	has *sector
}

// queue is what was written, but may be lost.
type queue struct {
	puts   []put
	newest map[int]*sector // of all elements for a sector, by its number
}

func emptyQueue() queue { return queue{newest: map[int]*sector{}} }

func (q *queue) copied() queue {
	return queue{slices.Clone(q.puts), maps.Clone(q.newest)}
}

// add puts sectors from a place on behind the queue.
func (q *queue) add(at int, l []*sector) {
	for i, s := range l {
		q.puts = append(q.puts, put{at + i, s})
		q.newest[at+i] = s
	}
}

// all yields the elements, in order.
func (q *queue) all() iter.Seq[put] { return slices.Values(q.puts) }

// kept yields the elements with some indices, in the order of these.
func (q *queue) kept(keep []int) iter.Seq[put] {
	return func(yield func(put) bool) {
		for _, i := range keep {
			if !yield(q.puts[i]) {
				return
			}
		}
	}
}

// areIndices reports whether numbers are indices of elements, none twice.
func (q *queue) areIndices(l []int) bool {
	seen := make([]bool, len(q.puts))
	for _, i := range l {
		if i < 0 || i >= len(seen) || seen[i] {
			return false
		}
		seen[i] = true
	}
	return true
}

// plain returns the elements as plain data.
func (q *queue) plain() []api.Put {
	var l []api.Put
	for _, p := range q.puts {
		l = append(l, api.Put{At: p.at, Bytes: slices.Clone(p.has[:])})
	}
	return l
}
