package runs

import (
	"bytes"
	"iter"

	"archivolt/api"
)

const (
	numberBits = 32
	byteBits   = 8
	maxWidth   = numberBits / byteBits // bytes of a number
	headUnit   = 16                    // a run begins with the byte headUnit * h + w, h and w being the widths of its numbers
)

// number is what a run is packed as: how many pages it has is without sign, how far it lies from another one has one.
type number interface{ uint32 | int32 }

// width returns in how few bytes a number fits.
func width[T number](n T) int {
	w := 1
	for unpacked[T](packed(n, w)) != n {
		w++
	}
	return w
}

// packed returns the low bytes of a number, the lowest first.
func packed[T number](n T, width int) []byte {
	b := make([]byte, width)
	for i := range b {
		b[i] = byte(n >> (byteBits * i))
	}
	return b
}

// unpacked returns the number of which these are the low bytes.
func unpacked[T number](b []byte) T {
	var n T
	for i, x := range b {
		n |= T(x) << (byteBits * i)
	}
	// Shifting up and down again fills what is above these bytes with the sign, if the number can have one.
	up := numberBits - byteBits*len(b)
	return n << up >> up
}

// full is what a writer panics with when its room ends.
type full struct{}

// writer appends bytes, at most as many as there is room for.
type writer struct {
	b    []byte
	room int
}

func (w *writer) write(b ...byte) {
	if len(b) > w.room-len(w.b) {
		panic(full{})
	}
	w.b = append(w.b, b...)
}

// run writes a run, last being the place of the last one ahead that is no hole.
func (w *writer) run(r api.Run, last int) {
	many, far := uint32(r.Many), int32(r.To-last)
	if isHole(r) {
		w.write(byte(width(many)))
		w.write(packed(many, width(many))...)
		return
	}
	w.write(byte(headUnit*width(far) + width(many)))
	w.write(packed(many, width(many))...)
	w.write(packed(far, width(far))...)
}

// fits reports whether there was room for a run, which is written then; otherwise nothing is.
func (w *writer) fits(r api.Run, last int) (is bool) {
	before := len(w.b)
	defer func() {
		if ended := recover(); ended != nil {
			needFull(ended)
			w.b = w.b[:before]
		}
	}()
	w.run(r, last)
	return true
}

// needFull passes on what ended writing, unless it was that the room ended.
func needFull(ended any) {
	if _, ok := ended.(full); !ok {
		panic(ended)
	}
}

// pack returns the first runs of a mapping in the normal form as bytes, as many as fit into most bytes, and how many pages they have.
func pack(l []api.Run, most int) (b []byte, pages int) {
	w := &writer{room: most - 1} // the byte 0 needs the last one
	last := 0
	for _, r := range l {
		if !w.fits(r, last) {
			break
		}
		pages += r.Many
		if !isHole(r) {
			last = r.To
		}
	}
	return append(w.b, 0), pages
}

// Pack returns the first runs of a mapping as bytes, as many as fit, and how many pages they have.
func Pack(l []api.Run, most int) (b []byte, pages int, e api.Errno) {
	return call(func() ([]byte, int) {
		need(most >= 1, api.ErrArg)
		needValid(l)
		return pack(norm(l), most)
	})
}

// reader reads bytes from its place on.
type reader struct {
	b  []byte
	at int
}

func (r *reader) read(many int) []byte {
	need(many <= len(r.b)-r.at, api.ErrForm)
	r.at += many
	return r.b[r.at-many : r.at]
}

// runs yields the runs ahead of the byte 0, and reads that, too.
func (r *reader) runs() iter.Seq[api.Run] {
	return func(yield func(api.Run) bool) {
		last := 0
		for head := r.read(1)[0]; head != 0; head = r.read(1)[0] {
			next := r.run(head, last)
			if !yield(next) {
				return
			}
			if !isHole(next) {
				last = next.To
			}
		}
	}
}

// run reads a run behind its first byte, last being the place of the last one ahead that is no hole.
func (r *reader) run(head byte, last int) api.Run {
	w, h := int(head%headUnit), int(head/headUnit)
	need(w >= 1 && w <= maxWidth && h <= maxWidth, api.ErrForm)
	many := int(unpacked[uint32](r.read(w)))
	if h == 0 {
		return api.Run{To: api.RnHole, Many: many}
	}
	to := last + int(unpacked[int32](r.read(h)))
	need(to >= 0, api.ErrForm)
	return api.Run{To: to, Many: many}
}

// Unpack returns the mapping that begins some bytes, and how many bytes it has.
func Unpack(b []byte) (l []api.Run, n int, e api.Errno) {
	return call(func() ([]api.Run, int) {
		in := &reader{b: b}
		got := in.all()
		need(Valid(got) == api.OK, api.ErrForm)
		// Runs that are not in the normal form, and numbers in more bytes than they need, are packed otherwise.
		again, _ := pack(norm(got), in.at)
		need(bytes.Equal(again, b[:in.at]), api.ErrForm)
		return got, in.at
	})
}

// all returns the runs, of which there are not too many.
func (r *reader) all() []api.Run {
	var l []api.Run
	for next := range r.runs() {
		need(len(l) < api.MaxRuns, api.ErrForm)
		l = append(l, next)
	}
	return l
}
