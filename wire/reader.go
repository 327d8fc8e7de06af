package wire

import (
	"bytes"

	"archivolt/api"
)

// place is where a Reader stands in its bytes.
type place struct {
	at int
}

func (p *place) goOn(many int) { p.at += many }

// Reader reads bytes from a place on.
type Reader struct {
	place
	data []byte
}

// NewReader returns a Reader of bytes.
func NewReader(b []byte) *Reader {
	// A copy, because the caller may change b while the Reader is in use.
	return &Reader{data: bytes.Clone(b)}
}

// At returns the place.
func (r *Reader) At() int {
	if r == nil {
		return 0
	}
	return r.at
}

// Left returns how many bytes are left.
func (r *Reader) Left() int {
	if r == nil {
		return 0
	}
	return len(r.data) - r.at
}

// Uint reads a number without sign.
func (r *Reader) Uint(width int) (int, api.Errno) { return r.fixed(width, ToUint) }

// Int reads a number with a sign.
func (r *Reader) Int(width int) (int, api.Errno) { return r.fixed(width, ToInt) }

func (r *Reader) fixed(width int, number func([]byte) (int, api.Errno)) (int, api.Errno) {
	if r == nil {
		return 0, api.ErrNil
	}
	if width < 1 || width > maxFixed {
		return 0, api.ErrArg
	}
	b, e := r.ahead(width)
	if e != api.OK {
		return 0, e
	}
	n, e := number(b)
	if e != api.OK {
		return 0, e
	}
	r.goOn(width)
	return n, api.OK
}

// Var reads a variable number.
func (r *Reader) Var() (int, api.Errno) {
	if r == nil {
		return 0, api.ErrNil
	}
	n, used, e := ToVar(r.data[r.at:])
	r.goOn(used)
	return n, e
}

// Text reads a text.
func (r *Reader) Text() ([]byte, api.Errno) {
	if r == nil {
		return nil, api.ErrNil
	}
	text, used, e := ToText(r.data[r.at:])
	r.goOn(used)
	return text, e
}

// Bytes reads some bytes.
func (r *Reader) Bytes(n int) ([]byte, api.Errno) {
	b, e := r.ahead(n)
	if e != api.OK {
		return nil, e
	}
	r.goOn(n)
	return bytes.Clone(b), api.OK
}

// Seek goes to a place.
func (r *Reader) Seek(at int) api.Errno {
	if r == nil {
		return api.ErrNil
	}
	if at < 0 || at > len(r.data) {
		return api.ErrArg
	}
	r.at = at
	return api.OK
}

// Sub returns a Reader of the next bytes alone.
func (r *Reader) Sub(n int) (*Reader, api.Errno) {
	b, e := r.ahead(n)
	if e != api.OK {
		return nil, e
	}
	r.goOn(n)
	return NewReader(b), api.OK
}

// ahead returns the next n bytes, which stay the Reader's own, and leaves the place.
func (r *Reader) ahead(n int) ([]byte, api.Errno) {
	switch {
	case r == nil:
		return nil, api.ErrNil
	case n < 0:
		return nil, api.ErrArg
	case n > r.Left():
		return nil, api.ErrForm
	}
	return r.data[r.at : r.at+n], api.OK
}
