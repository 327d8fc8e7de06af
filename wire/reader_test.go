package wire_test

import (
	"bytes"
	"math"
	"math/rand"
	"testing"

	"archivolt/api"
	"archivolt/wire"
)

func TestP1_7Reads(t *testing.T) {
	r := wire.NewReader([]byte{2, 1, 254, 255, 172, 2, 2, 120, 121, 5, 6, 7})
	if r.At() != 0 || r.Left() != 12 {
		t.Error(r.At(), r.Left())
	}
	if n, e := r.Uint(2); n != 258 || e != api.OK || r.At() != 2 || r.Left() != 10 {
		t.Error(n, e, r.At(), r.Left())
	}
	if n, e := r.Int(2); n != -2 || e != api.OK || r.At() != 4 {
		t.Error(n, e, r.At())
	}
	if n, e := r.Var(); n != 300 || e != api.OK || r.At() != 6 {
		t.Error(n, e, r.At())
	}
	if b, e := r.Text(); string(b) != "xy" || e != api.OK || r.At() != 9 {
		t.Error(b, e, r.At())
	}
	if b, e := r.Bytes(0); len(b) > 0 || e != api.OK || r.At() != 9 {
		t.Error(b, e, r.At())
	}
	if b, e := r.Bytes(2); !bytes.Equal(b, []byte{5, 6}) || e != api.OK || r.At() != 11 {
		t.Error(b, e, r.At())
	}
	if n, e := r.Uint(1); n != 7 || e != api.OK || r.At() != 12 || r.Left() != 0 {
		t.Error(n, e, r.At(), r.Left())
	}
	if b, e := r.Bytes(0); len(b) > 0 || e != api.OK {
		t.Error(b, e)
	}
	for _, b := range [][]byte{nil, {}} {
		if r := wire.NewReader(b); r == nil || r.At() != 0 || r.Left() != 0 || r.Seek(0) != api.OK {
			t.Error(r)
		}
	}
}

// refusals are readings of a Reader of some bytes that are refused.
func refusals() []struct {
	name string
	b    []byte
	read func(r *wire.Reader) (any, api.Errno)
	e    api.Errno
} {
	number := func(f func(*wire.Reader, int) (int, api.Errno), width int) func(*wire.Reader) (any, api.Errno) {
		return func(r *wire.Reader) (any, api.Errno) {
			n, e := f(r, width)
			return n != 0, e
		}
	}
	some := func(n int) func(*wire.Reader) (any, api.Errno) {
		return func(r *wire.Reader) (any, api.Errno) {
			b, e := r.Bytes(n)
			return len(b) > 0, e
		}
	}
	sub := func(n int) func(*wire.Reader) (any, api.Errno) {
		return func(r *wire.Reader) (any, api.Errno) {
			s, e := r.Sub(n)
			return s != nil, e
		}
	}
	variable := func(r *wire.Reader) (any, api.Errno) {
		n, e := r.Var()
		return n != 0, e
	}
	text := func(r *wire.Reader) (any, api.Errno) {
		b, e := r.Text()
		return len(b) > 0, e
	}
	u, i := (*wire.Reader).Uint, (*wire.Reader).Int
	full := bytes.Repeat([]byte{255}, 8)
	return []struct {
		name string
		b    []byte
		read func(r *wire.Reader) (any, api.Errno)
		e    api.Errno
	}{
		{"Uint(0)", nil, number(u, 0), api.ErrArg},
		{"Uint(9)", nil, number(u, 9), api.ErrArg},
		{"Uint(-1)", full, number(u, -1), api.ErrArg},
		{"Uint(MaxInt)", full, number(u, math.MaxInt), api.ErrArg},
		{"Uint(3) of 2", []byte{1, 1}, number(u, 3), api.ErrForm},
		{"Uint(8) of 7", full[:7], number(u, 8), api.ErrForm},
		{"Uint(8)", full, number(u, 8), api.ErrRange},
		{"Int(0)", nil, number(i, 0), api.ErrArg},
		{"Int(9)", nil, number(i, 9), api.ErrArg},
		{"Int(MinInt)", full, number(i, math.MinInt), api.ErrArg},
		{"Int(1) of 0", nil, number(i, 1), api.ErrForm},
		{"Var of none", nil, variable, api.ErrForm},
		{"Var of 128", []byte{128}, variable, api.ErrForm},
		{"Var of 128 0", []byte{128, 0}, variable, api.ErrForm},
		{"Text of none", nil, text, api.ErrForm},
		{"Text that ends", []byte{3, 97}, text, api.ErrForm},
		{"Text of a bad number", []byte{128, 0, 97}, text, api.ErrForm},
		{"Text that is too long", []byte{128, 128, 4}, text, api.ErrLimit},
		{"Bytes(-1)", full, some(-1), api.ErrArg},
		{"Bytes(MinInt)", full, some(math.MinInt), api.ErrArg},
		{"Bytes(9) of 8", full, some(9), api.ErrForm},
		{"Bytes(MaxInt)", full, some(math.MaxInt), api.ErrForm},
		{"Sub(-1)", full, sub(-1), api.ErrArg},
		{"Sub(9) of 8", full, sub(9), api.ErrForm},
		{"Sub(MaxInt)", full, sub(math.MaxInt), api.ErrForm},
	}
}

func TestP1_7Refusals(t *testing.T) {
	for _, c := range refusals() {
		r := wire.NewReader(join([]byte{9, 9}, c.b))
		if e := r.Seek(2); e != api.OK {
			t.Fatal(e)
		}
		if something, e := c.read(r); e != c.e || something == true || r.At() != 2 || r.Left() != len(c.b) {
			t.Error(c.name, something, e, r.At())
		}
		var none *wire.Reader
		if something, e := c.read(none); e != api.ErrNil || something == true {
			t.Error("nil:", c.name, something, e)
		}
	}
}

func TestP1_7Nil(t *testing.T) {
	var none *wire.Reader
	if none.At() != 0 || none.Left() != 0 {
		t.Error(none.At(), none.Left())
	}
	for _, at := range []int{-1, 0, 1} {
		if e := none.Seek(at); e != api.ErrNil {
			t.Error(at, e)
		}
	}
	if s, e := none.Sub(0); s != nil || e != api.ErrNil {
		t.Error(s, e)
	}
	if b, e := none.Bytes(0); b != nil || e != api.ErrNil {
		t.Error(b, e)
	}
	if n, e := none.Uint(1); n != 0 || e != api.ErrNil {
		t.Error(n, e)
	}
}

func TestP1_7Seek(t *testing.T) {
	r := wire.NewReader([]byte{1, 2, 3})
	for _, at := range []int{3, 0, 2} {
		if e := r.Seek(at); e != api.OK || r.At() != at || r.Left() != 3-at {
			t.Error(at, e, r.At(), r.Left())
		}
	}
	for _, at := range []int{-1, 4, math.MaxInt, math.MinInt} {
		if e := r.Seek(at); e != api.ErrArg || r.At() != 2 {
			t.Error(at, e, r.At())
		}
	}
}

func TestP1_7Sub(t *testing.T) {
	r := wire.NewReader([]byte{9, 2, 120, 121, 8})
	r.Seek(1)
	s, e := r.Sub(3)
	if e != api.OK || s == nil || s.At() != 0 || s.Left() != 3 || r.At() != 4 {
		t.Fatal(e, s, r.At())
	}
	if b, e := s.Bytes(4); b != nil || e != api.ErrForm {
		t.Error("beyond the bytes of the Sub:", b, e)
	}
	if e := s.Seek(4); e != api.ErrArg {
		t.Error(e)
	}
	if b, e := s.Text(); string(b) != "xy" || e != api.OK || s.Left() != 0 || r.At() != 4 {
		t.Error(b, e, s.Left(), r.At())
	}
	if n, e := r.Uint(1); n != 8 || e != api.OK || s.At() != 3 {
		t.Error(n, e, s.At())
	}
	if s, e := r.Sub(0); e != api.OK || s == nil || s.Left() != 0 {
		t.Error(s, e)
	}
}

// readField reads what a field of a layout would be, by the calls of a Reader.
func readField(r *wire.Reader, f api.Field) (x api.Datum, e api.Errno) {
	switch f.Kind {
	case api.FdUint:
		x.N, e = r.Uint(f.Width)
	case api.FdInt:
		x.N, e = r.Int(f.Width)
	case api.FdVar:
		x.N, e = r.Var()
	case api.FdBytes:
		x.B, e = r.Bytes(f.Width)
	case api.FdText:
		x.B, e = r.Text()
	}
	return x, e
}

func TestP1_14ReadersFollowLayouts(t *testing.T) {
	random := chance()
	for range 3000 {
		l := anyLayout(random)
		items := anyItems(random, l)
		packed, _ := wire.Pack(l, items)
		b := join(packed, anyBytes(random, 4))
		r := wire.NewReader(b)
		for i, f := range l {
			from, to, e := wire.Where(l, b, i)
			if e != api.OK || r.At() != from {
				t.Fatal(l, b, i, from, e, r.At())
			}
			if x, e := readField(r, f); e != api.OK || !sameItem(x, items[i]) || r.At() != to {
				t.Fatal(l, b, i, x, e, r.At())
			}
		}
		if _, used, _ := wire.Unpack(l, b); r.At() != used {
			t.Fatal(l, b, r.At(), used)
		}
	}
}

// anyRead reads something; a and b have to see the same, and to go as far.
func anyRead(t *testing.T, random *rand.Rand, a, b *wire.Reader) (e api.Errno) {
	f := api.Field{Kind: 1 + random.Intn(5), Width: 1 + random.Intn(8)}
	before, from := a.At(), b.At()
	x, e := readField(a, f)
	y, g := readField(b, f)
	if e != g || !sameItem(x, y) || a.At()-before != b.At()-from {
		t.Fatal(f, x, e, y, g, a.At()-before, b.At()-from)
	}
	return e
}

func TestP1_14SeekIsLikeANewReader(t *testing.T) {
	random := chance()
	for range 3000 {
		b := fewBytes(random, 30)
		r := wire.NewReader(b)
		r.Bytes(random.Intn(31))
		at := random.Intn(len(b) + 1)
		if e := r.Seek(at); e != api.OK {
			t.Fatal(at, e)
		}
		fresh := wire.NewReader(b[at:])
		for range 5 {
			anyRead(t, random, r, fresh)
		}
	}
}

func TestP1_14SubReadsWhatItsParentWould(t *testing.T) {
	random := chance()
	for range 5000 {
		b := fewBytes(random, 30)
		at := random.Intn(len(b) + 1)
		many := random.Intn(len(b) - at + 1)
		parent, alone := wire.NewReader(b), wire.NewReader(b[at:at+many])
		parent.Seek(at)
		sub, e := parent.Sub(many)
		if e != api.OK || parent.At() != at+many {
			t.Fatal(b, at, many, e)
		}
		for range 5 {
			anyRead(t, random, sub, alone)
		}
		sub.Seek(0)
		parent.Seek(at)
		for parent.Left() > 0 {
			f := api.Field{Kind: 1 + random.Intn(5), Width: 1}
			x, e := readField(sub, f)
			if e != api.OK {
				break // it may be that only the end of the Sub is in the way
			}
			y, g := readField(parent, f)
			if g != api.OK || !sameItem(x, y) || parent.At() != at+sub.At() {
				t.Fatal(b, at, many, f, x, y, g)
			}
		}
	}
}
