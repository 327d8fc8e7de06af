package runs

import (
	"iter"

	"archivolt/api"
)

// Cut returns the mapping of the pages ahead of a page, and that of the others.
func Cut(l []api.Run, page int) (a []api.Run, b []api.Run, e api.Errno) {
	return call(func() ([]api.Run, []api.Run) {
		needValid(l)
		needPages(l, page, 0)
		return joined(parts(l, 0, page)), joined(parts(l, page, size(l)))
	})
}

// needPages ends a call, unless there are many pages from a page on.
func needPages(l []api.Run, page, many int) {
	// The sum of page and many might be no int.
	need(page >= 0 && many >= 0 && many <= size(l)-page, api.ErrRange)
}

// Join returns the mapping of the pages of a, and then those of b.
func Join(a, b []api.Run) ([]api.Run, api.Errno) {
	return single(func() []api.Run {
		needValid(a, b)
		return joined(whole(a), whole(b))
	})
}

// Insert returns the mapping with other pages ahead of a page.
func Insert(l []api.Run, page int, more []api.Run) ([]api.Run, api.Errno) {
	return single(func() []api.Run {
		needValid(l, more)
		needPages(l, page, 0)
		rest, _ := replaced(l, page, 0, whole(more))
		return rest
	})
}

// replaced returns the mapping that has others in place of many pages from a page on (behind a hole, if the stream ends ahead of that page), and what was there.
func replaced(l []api.Run, page, many int, others iter.Seq2[int, api.Run]) (rest []api.Run, out []api.Run) {
	end := page + many
	rest = joined(parts(l, 0, page), hole(page-size(l)), others, parts(l, end, size(l)))
	return rest, joined(parts(l, page, end))
}

// hole yields a hole of many pages, nothing if many is not positive.
func hole(many int) iter.Seq2[int, api.Run] {
	return parts([]api.Run{{To: api.RnHole, Many: many}}, 0, many)
}

// Remove returns the mapping without some pages, and what was there.
func Remove(l []api.Run, page, many int) (rest []api.Run, out []api.Run, e api.Errno) {
	return call(func() ([]api.Run, []api.Run) {
		needValid(l)
		needPages(l, page, many)
		return replaced(l, page, many, hole(0))
	})
}

// Punch returns the mapping in which some pages are holes, and what was there.
func Punch(l []api.Run, page, many int) (rest []api.Run, out []api.Run, e api.Errno) {
	return call(func() ([]api.Run, []api.Run) {
		needValid(l)
		needPages(l, page, many)
		return replaced(l, page, many, hole(many))
	})
}

// Put returns the mapping in which the pages from one on are others, and what was there.
func Put(l []api.Run, page int, more []api.Run) (rest []api.Run, out []api.Run, e api.Errno) {
	return call(func() ([]api.Run, []api.Run) {
		needValid(l, more)
		need(page >= 0 && page <= api.MaxMapped, api.ErrRange)
		if len(more) == 0 {
			// A stream that ends ahead of the page does not grow up to it, either.
			return norm(l), nil
		}
		return replaced(l, page, size(more), whole(more))
	})
}
