package wire_test

import (
	"bytes"
	"math"
	"testing"

	"archivolt/api"
	"archivolt/wire"
)

func TestP1_1Write(t *testing.T) {
	for _, c := range []struct {
		n, width int
		signed   bool
		want     []byte
		e        api.Errno
	}{
		{n: 258, width: 2, want: []byte{2, 1}},
		{n: 258, width: 1, e: api.ErrRange},
		{n: 0, width: 1, want: []byte{0}},
		{n: 0, width: 8, want: make([]byte, 8)},
		{n: 255, width: 1, want: []byte{255}},
		{n: 256, width: 1, e: api.ErrRange},
		{n: 0x010203, width: 4, want: []byte{3, 2, 1, 0}},
		{n: math.MaxInt, width: 8, want: []byte{255, 255, 255, 255, 255, 255, 255, 127}},
		{n: math.MaxInt, width: 7, e: api.ErrRange},
		{n: -1, width: 8, e: api.ErrRange},
		{n: -1, width: 1, e: api.ErrRange},
		{n: math.MinInt, width: 8, e: api.ErrRange},
		{n: 1, width: 0, e: api.ErrArg},
		{n: 1, width: 9, e: api.ErrArg},
		{n: 1, width: -1, e: api.ErrArg},
		{n: -1, width: 0, e: api.ErrArg},
		{n: 1, width: math.MaxInt, e: api.ErrArg},
		{n: 1, width: math.MinInt, e: api.ErrArg},
		{n: -2, width: 3, signed: true, want: []byte{254, 255, 255}},
		{n: 128, width: 1, signed: true, e: api.ErrRange},
		{n: 127, width: 1, signed: true, want: []byte{127}},
		{n: -128, width: 1, signed: true, want: []byte{128}},
		{n: -129, width: 1, signed: true, e: api.ErrRange},
		{n: -129, width: 2, signed: true, want: []byte{127, 255}},
		{n: math.MinInt, width: 8, signed: true, want: []byte{0, 0, 0, 0, 0, 0, 0, 128}},
		{n: math.MinInt, width: 7, signed: true, e: api.ErrRange},
		{n: 0, width: 0, signed: true, e: api.ErrArg},
		{n: 0, width: 9, signed: true, e: api.ErrArg},
		{n: 1000, width: -8, signed: true, e: api.ErrArg},
	} {
		write := wire.Uint
		if c.signed {
			write = wire.Int
		}
		if b, e := write(c.n, c.width); e != c.e || !bytes.Equal(b, c.want) {
			t.Error(c, b, e)
		}
	}
}

func TestP1_1Read(t *testing.T) {
	full := bytes.Repeat([]byte{255}, 8)
	for _, c := range []struct {
		b      []byte
		signed bool
		want   int
		e      api.Errno
	}{
		{b: []byte{2, 1}, want: 258},
		{b: []byte{255}, want: 255},
		{b: []byte{0, 0, 0}, want: 0},
		{b: full[:7], want: 1<<56 - 1},
		{b: []byte{255, 255, 255, 255, 255, 255, 255, 127}, want: math.MaxInt},
		{b: []byte{0, 0, 0, 0, 0, 0, 0, 128}, e: api.ErrRange},
		{b: full, e: api.ErrRange},
		{b: nil, e: api.ErrArg},
		{b: make([]byte, 9), e: api.ErrArg},
		{b: []byte{254, 255, 255}, signed: true, want: -2},
		{b: []byte{128}, signed: true, want: -128},
		{b: []byte{127}, signed: true, want: 127},
		{b: []byte{0, 128}, signed: true, want: -32768},
		{b: []byte{0, 0, 0, 0, 0, 0, 0, 128}, signed: true, want: math.MinInt},
		{b: []byte{255, 255, 255, 255, 255, 255, 255, 127}, signed: true, want: math.MaxInt},
		{b: full, signed: true, want: -1},
		{b: []byte{}, signed: true, e: api.ErrArg},
		{b: make([]byte, 9), signed: true, e: api.ErrArg},
	} {
		read := wire.ToUint
		if c.signed {
			read = wire.ToInt
		}
		if n, e := read(c.b); e != c.e || n != c.want {
			t.Error(c, n, e)
		}
	}
}

func TestP1_1Width(t *testing.T) {
	for _, c := range []struct {
		n      int
		signed bool
		want   int
	}{
		{255, false, 1}, {255, true, 2}, {-128, true, 1}, {-1, false, 0}, {0, true, 1}, {0, false, 1},
		{256, false, 2}, {127, true, 1}, {128, true, 2}, {-129, true, 2}, {-1, true, 1}, {65535, false, 2}, {65536, false, 3},
		{1<<56 - 1, false, 7}, {1 << 56, false, 8}, {1 << 55, true, 8}, {-1 << 55, true, 7}, {-1<<55 - 1, true, 8},
		{math.MaxInt, false, 8}, {math.MaxInt, true, 8}, {math.MinInt, true, 8}, {math.MinInt, false, 0},
	} {
		if w := wire.Width(c.n, c.signed); w != c.want {
			t.Error(c, w)
		}
	}
}

func TestP1_8FixedNumbersAreReadBack(t *testing.T) {
	for _, n := range edges() {
		for width := 1; width <= 8; width++ {
			if b, e := wire.Uint(n, width); e == api.OK {
				if m, e := wire.ToUint(b); m != n || e != api.OK || len(b) != width {
					t.Error(n, width, b, m, e)
				}
			}
			if b, e := wire.Int(n, width); e == api.OK {
				if m, e := wire.ToInt(b); m != n || e != api.OK || len(b) != width {
					t.Error(n, width, b, m, e)
				}
			}
		}
	}
}

func TestP1_9FixedNumbersAreWrittenOneWay(t *testing.T) {
	r := chance()
	for range 20000 {
		b := fewBytes(r, 9)
		if n, e := wire.ToUint(b); e == api.OK {
			if c, e := wire.Uint(n, len(b)); !bytes.Equal(b, c) || e != api.OK {
				t.Fatal(b, n, c, e)
			}
		}
		if n, e := wire.ToInt(b); e == api.OK {
			if c, e := wire.Int(n, len(b)); !bytes.Equal(b, c) || e != api.OK {
				t.Fatal(b, n, c, e)
			}
		}
	}
}

func TestP1_10LeastWidth(t *testing.T) {
	for _, n := range edges() {
		for _, signed := range []bool{false, true} {
			write, read := wire.Uint, wire.ToUint
			if signed {
				write, read = wire.Int, wire.ToInt
			}
			least := wire.Width(n, signed)
			if (least == 0) != (!signed && n < 0) || least < 0 || least > 8 {
				t.Error(n, signed, least)
			}
			for width := 1; width <= 8; width++ {
				b, e := write(n, width)
				if least == 0 || width < least {
					if e != api.ErrRange || len(b) > 0 {
						t.Error(n, signed, width, b, e)
					}
					continue
				}
				if m, f := read(b); e != api.OK || f != api.OK || m != n {
					t.Error(n, signed, width, b, e, m, f)
				}
			}
		}
	}
}
