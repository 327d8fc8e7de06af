package press_test

import (
	"bytes"
	"math"
	"slices"
	"strings"
	"testing"

	"archivolt/api"
	"archivolt/press"
)

// full is compressed data of api.MaxUnit bytes, of which the second group begins with the next token.
func full() []api.Symbol {
	return append(literals("abcdefg"), copied(7, api.MaxUnit-7))
}

// sample returns tokens with their compressed data.
func sample() []struct {
	l []api.Symbol
	c string
} {
	return []struct {
		l []api.Symbol
		c string
	}{
		{nil, ""},
		{literals("a"), "\x00a"},
		{literals("abcdefgh"), "\x00abcdefgh"},
		{literals("abcdefghi"), "\x00abcdefgh\x00i"},
		{[]api.Symbol{literal('a'), copied(1, 5)}, "\x02a\x02\x00"},
		{[]api.Symbol{literal('a'), copied(1, 3), copied(4, 3)}, "\x06a\x00\x00\x00\x30"},
		{[]api.Symbol{literal('a'), copied(1, api.MaxUnit-1)}, "\x02a\x9c\x0e"},
		{append(literals("abcdefg"), copied(7, 3)), "\x80abcdefg\x00\x60"},
		{append(literals("abcdefgh"), copied(8, 300)), "\x00abcdefgh\x01\x29\x71"},
		{append(literals("abcdefghijklmnop"), copied(16, 3)), "\x00abcdefgh\x00ijklmnop\x01\x00\xf0"},
		{append(literals("abcdefghijklmnopq"), copied(17, 2050)), "\x00abcdefgh\x00ijklmnop\x02q\xff\x87"},
		{[]api.Symbol{literal('a'), copied(1, 2048), copied(2049, 18)}, "\x06a\xfd\x07\x0f\x80"},
		{[]api.Symbol{literal('a'), copied(1, 2047), copied(2048, 34)}, "\x06a\xfc\x07\xff\xff"},
	}
}

func TestP6_3Samples(t *testing.T) {
	for _, c := range sample() {
		if l, e := press.Tokens([]byte(c.c)); !slices.Equal(l, c.l) || e != api.OK {
			t.Errorf("%q: %v, %v", c.c, l, e)
		}
		if got, e := press.Build(c.l); string(got) != c.c || e != api.OK {
			t.Errorf("%v: %q, %v", c.l, got, e)
		}
		want := plainData(c.l)
		if b, e := press.Expand([]byte(c.c)); !bytes.Equal(b, want) || e != api.OK {
			t.Errorf("%q: %q, %v", c.c, b, e)
		}
		if many, e := press.Size([]byte(c.c)); many != len(want) || e != api.OK {
			t.Errorf("%q: %v, %v", c.c, many, e)
		}
	}
}

// sameReading wants Tokens, Expand and Size to be as the plain reading is.
func sameReading(t *testing.T, c []byte) {
	t.Helper()
	want, wantError := plainTokens(c)
	b := plainData(want)
	if l, e := press.Tokens(c); !slices.Equal(l, want) || e != wantError {
		t.Errorf("%q: %v, %v, not %v", c, l, e, wantError)
	}
	if got, e := press.Expand(c); !bytes.Equal(got, b) || e != wantError {
		t.Errorf("%q: %q, %v, not %v", c, got, e, wantError)
	}
	if many, e := press.Size(c); many != len(b) || e != wantError {
		t.Errorf("%q: %v, %v, not %v", c, many, e, wantError)
	}
}

func TestP6_3Expand(t *testing.T) {
	for _, c := range []struct{ c, b string }{
		{"", ""}, {"\x02a\x02\x00", "aaaaaa"}, {"\x08abc\x02\x20", "abcabcab"}, {"\x04ab\x04\x10", "ababababa"},
		{"\x0cab\x00\x10\x01\x30", "ababababa"}, {"\x08abc\x00\x00", "abcccc"}, {"\x08abc\x00\x10", "abcbcb"},
	} {
		if b, e := press.Expand([]byte(c.c)); string(b) != c.b || e != api.OK {
			t.Errorf("%q: %q, %v", c.c, b, e)
		}
		if many, e := press.Size([]byte(c.c)); many != len(c.b) || e != api.OK {
			t.Errorf("%q: %v, %v", c.c, many, e)
		}
	}
}

func TestP6_3AnyTokens(t *testing.T) {
	r := chance()
	for range 3000 {
		l := anyTokens(r, 1+r.Intn(api.MaxUnit))
		c := good[[]byte](t)(press.Build(l))
		if !bytes.Equal(c, plainBuild(l)) {
			t.Fatal(l)
		}
		sameReading(t, c)
	}
}

func TestP6_3WrongBytes(t *testing.T) {
	full := string(plainBuild(full()))
	for _, c := range []struct {
		c string
		e api.Errno
	}{
		// A group without tokens, the first one and a later one.
		{"\x00", api.ErrForm}, {"\x01", api.ErrForm}, {"\xff", api.ErrForm}, {"\x00abcdefgh\x00", api.ErrForm}, {full + "\x00", api.ErrForm}, {full + "\x01", api.ErrForm},
		// A bit for a token that is not there.
		{"\x02a", api.ErrForm}, {"\x04ab", api.ErrForm}, {"\x80a", api.ErrForm}, {"\x0aa\x00\x00", api.ErrForm}, {"\x80abcdefg", api.ErrForm}, {"\x00abcdefgh\x02i", api.ErrForm}, {"\x10ab", api.ErrForm},
		// A copy of which a byte is there.
		{"\x02a\x00", api.ErrForm}, {"\x80abcdefg\x00", api.ErrForm}, {"\x00abcdefgh\x01\x00", api.ErrForm}, {full + "\x01\x00", api.ErrForm},
		// An offset ahead of the data.
		{"\x01\x00\x00", api.ErrForm}, {"\x01\x00\x10", api.ErrForm}, {"\x02a\x00\x10", api.ErrForm}, {"\x02a\x00\xf0", api.ErrForm}, {"\x08abc\x00\x30", api.ErrForm}, {"\x80abcdefg\x00\x70", api.ErrForm},
		{"\x06a\xfd\x07\x10\x80", api.ErrForm}, {full + "\x01\xff\xff", api.ErrForm}, {full + "\x01\x00\xea", api.ErrForm},
		// Too much data: by a literal, by a copy, at its end and ahead of it.
		{full + "\x00a", api.ErrLimit}, {full + "\x01\x00\x00", api.ErrLimit}, {full + "\x01\xff\xe9", api.ErrLimit}, {"\x02a\x9d\x0e", api.ErrLimit}, {"\x06a\x9c\x0e\x00\x00", api.ErrLimit}, {"\x06a\x9a\x0e\x00\x00", api.ErrLimit}, {"\x02a\xff\x0f", api.ErrLimit},
		// Of two wrong tokens the first one.
		{full + "\x02a\xff\xff", api.ErrLimit}, {full + "\x02a", api.ErrLimit}, {full + "\x02a\x00", api.ErrLimit}, {full + "\x03\x00\x00\xff\xff", api.ErrLimit}, {full + "\x03\xff\xff\x00\x00", api.ErrForm}, {full + "\x00abcdefgh\x00", api.ErrLimit},
		{"\x03\x00\x00", api.ErrForm}, {"\x07\x00\x00\xff\x0f\x00\x00", api.ErrForm},
	} {
		if l, e := press.Tokens([]byte(c.c)); len(l) != 0 || e != c.e {
			t.Errorf("%q: %v, %v", c.c, l, e)
		}
		if b, e := press.Expand([]byte(c.c)); len(b) != 0 || e != c.e {
			t.Errorf("%q: %v, %v", c.c, b, e)
		}
		if many, e := press.Size([]byte(c.c)); many != 0 || e != c.e {
			t.Errorf("%q: %v, %v", c.c, many, e)
		}
	}
}

func TestP6_3FewBytes(t *testing.T) {
	some := []byte{0, 1, 2, 3, 4, 6, 16, 32, 128, 255}
	var try func(c []byte, more int)
	try = func(c []byte, more int) {
		sameReading(t, c)
		if more > 0 {
			for _, x := range some {
				try(append(slices.Clone(c), x), more-1)
			}
		}
	}
	try(nil, 4)
	for n := range 1 << 16 {
		sameReading(t, []byte{byte(n), byte(n >> 8)})
		sameReading(t, []byte{8, 'a', 'b', 'c', byte(n), byte(n >> 8)})
	}
}

// Compressed data with some bytes changed, left out, or at its end.
func TestP6_3ChangedBytes(t *testing.T) {
	r := chance()
	for range 20000 {
		c := plainBuild(anyTokens(r, 1+r.Intn(100)))
		if r.Intn(4) == 0 {
			c = append(plainBuild(full()), plainBuild(literals("abcd"))...)
		}
		for range 1 + r.Intn(2) {
			switch at := r.Intn(len(c) + 1); {
			case at == len(c):
				c = append(c, byte(r.Intn(256)))
			case r.Intn(3) == 0:
				c = slices.Delete(c, at, at+1)
			case r.Intn(3) == 0:
				c = c[:at]
			default:
				c[at] ^= 1 << r.Intn(8)
			}
		}
		sameReading(t, c)
	}
}

func TestP6_3Build(t *testing.T) {
	a := literal('a')
	for _, c := range []struct {
		l []api.Symbol
		e api.Errno
	}{
		{[]api.Symbol{a, copied(1, 2)}, api.ErrArg}, {[]api.Symbol{a, copied(1, 0)}, api.ErrArg}, {[]api.Symbol{a, copied(1, -3)}, api.ErrArg}, {[]api.Symbol{a, copied(1, math.MinInt)}, api.ErrArg},
		{[]api.Symbol{a, copied(1, 4099)}, api.ErrArg}, {[]api.Symbol{a, copied(1, math.MaxInt)}, api.ErrArg}, {[]api.Symbol{a, copied(1, 1<<32+5)}, api.ErrArg},
		{[]api.Symbol{copied(1, 3)}, api.ErrArg}, {[]api.Symbol{copied(0, 3)}, api.ErrArg}, {[]api.Symbol{a, copied(0, 3)}, api.ErrArg}, {[]api.Symbol{a, copied(2, 3)}, api.ErrArg}, {[]api.Symbol{a, copied(-1, 3)}, api.ErrArg}, {[]api.Symbol{a, copied(math.MinInt, 3)}, api.ErrArg}, {[]api.Symbol{a, copied(math.MaxInt, 3)}, api.ErrArg},
		{[]api.Symbol{a, {Copy: true, Byte: 1, Back: 1, Many: 3}}, api.ErrArg}, {[]api.Symbol{{Back: 1}}, api.ErrArg}, {[]api.Symbol{{Many: 1}}, api.ErrArg}, {[]api.Symbol{a, {Byte: 'b', Back: 1, Many: 3}}, api.ErrArg}, {[]api.Symbol{a, {Back: -1}}, api.ErrArg}, {[]api.Symbol{a, {Many: -1}}, api.ErrArg},
		// The reach and the offsets of a later position.
		{append(literals("abcdefghijklmnopq"), copied(1, 2051)), api.ErrArg}, {append(literals("abcdefghijklmnop"), copied(17, 3)), api.ErrArg}, {[]api.Symbol{a, copied(1, 2048), copied(1, 19)}, api.ErrArg}, {[]api.Symbol{a, copied(1, 2048), copied(2050, 3)}, api.ErrArg},
		// Too much data.
		{append(full(), a), api.ErrLimit}, {append(full(), copied(api.MaxUnit, 3)), api.ErrLimit}, {[]api.Symbol{a, copied(1, api.MaxUnit)}, api.ErrLimit}, {[]api.Symbol{a, copied(1, api.MaxUnit-3), copied(1, 3)}, api.ErrLimit}, {[]api.Symbol{a, copied(1, 4098)}, api.ErrLimit}, {literals(strings.Repeat("a", api.MaxUnit+1)), api.ErrLimit},
		// Of two errors the first token's, and for one token ErrArg.
		{append(full(), copied(api.MaxUnit+1, 3)), api.ErrArg}, {append(full(), copied(1, 19)), api.ErrArg}, {append(full(), api.Symbol{Many: 1}), api.ErrArg}, {append(full(), a, copied(0, 0)), api.ErrLimit}, {[]api.Symbol{a, copied(2, 3), copied(1, 4098)}, api.ErrArg}, {[]api.Symbol{a, copied(1, 4098), copied(0, 3)}, api.ErrLimit},
	} {
		if b, e := press.Build(c.l); len(b) != 0 || e != c.e {
			t.Error(c.l, b, e)
		}
	}
	if c, e := press.Build(literals(strings.Repeat("a", api.MaxUnit))); len(c) != api.MaxUnit/8*9 || e != api.OK {
		t.Error(len(c), e)
	}
}

// Valid tokens of which one is changed in one field.
func TestP6_3BuildChanged(t *testing.T) {
	r := chance()
	values := []int{0, 1, -1, 2, 3, 18, 19, 34, 35, 258, 2050, 2051, 4098, 4099, math.MaxInt, math.MinInt}
	for range 20000 {
		l := anyTokens(r, 1+r.Intn(100)*r.Intn(38))
		if len(l) == 0 {
			continue
		}
		s := &l[r.Intn(len(l))]
		switch r.Intn(5) {
		case 0:
			s.Copy = !s.Copy
		case 1:
			s.Byte = byte(r.Intn(2))
		case 2:
			s.Back = values[r.Intn(len(values))]
		case 3:
			s.Many = values[r.Intn(len(values))]
		case 4:
			s.Back += r.Intn(3) - 1
		}
		c, e := press.Build(l)
		want := plainWrong(l)
		if e != want || e != api.OK && len(c) > 0 || e == api.OK && !bytes.Equal(c, plainBuild(l)) {
			t.Fatal(l, e, want)
		}
	}
}

func TestP6_3Nil(t *testing.T) {
	l, e := press.Tokens([]byte{})
	c, f := press.Build([]api.Symbol{})
	b, g := press.Expand(nil)
	many, h := press.Size(nil)
	if len(l) != 0 || len(c) != 0 || len(b) != 0 || many != 0 || e != api.OK || f != api.OK || g != api.OK || h != api.OK {
		t.Error(l, c, b, many, e, f, g, h)
	}
}
