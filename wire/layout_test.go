package wire_test

import (
	"bytes"
	"math"
	"slices"
	"strconv"
	"testing"

	"archivolt/api"
	"archivolt/wire"
)

func manyFields(many int) []api.Field {
	var l []api.Field
	for i := range many {
		l = append(l, api.Field{Name: strconv.Itoa(i), Kind: api.FdUint, Width: 1})
	}
	return l
}

// badLayouts are layouts that are not valid, each for one reason.
func badLayouts() [][]api.Field {
	bad := [][]api.Field{
		manyFields(65),
		{{Name: "a", Kind: api.FdVar}, {Name: "b", Kind: api.FdVar}, {Name: "a", Kind: api.FdText, Width: 2}},
		{{Kind: api.FdVar}},
	}
	for _, f := range []api.Field{
		{Kind: 0}, {Kind: 0, Width: 1}, {Kind: 6}, {Kind: 6, Width: 1}, {Kind: -1, Width: 1}, {Kind: math.MaxInt}, {Kind: math.MinInt},
		{Kind: api.FdUint, Width: 0}, {Kind: api.FdUint, Width: 9}, {Kind: api.FdUint, Width: -1},
		{Kind: api.FdInt, Width: 0}, {Kind: api.FdInt, Width: 9}, {Kind: api.FdInt, Width: math.MinInt},
		{Kind: api.FdVar, Width: 1}, {Kind: api.FdVar, Width: -1},
		{Kind: api.FdBytes, Width: -1}, {Kind: api.FdBytes, Width: 4097},
		{Kind: api.FdText, Width: -1}, {Kind: api.FdText, Width: 4097}, {Kind: api.FdText, Width: math.MaxInt},
	} {
		f.Name = "a"
		bad = append(bad, []api.Field{f})
	}
	return bad
}

func TestP1_4Check(t *testing.T) {
	for _, l := range badLayouts() {
		if e := wire.Check(l); e != api.ErrArg {
			t.Error(l, e)
		}
	}
	good := [][]api.Field{nil, {}, record(), manyFields(64)}
	for _, f := range []api.Field{
		{Kind: api.FdUint, Width: 1}, {Kind: api.FdUint, Width: 8}, {Kind: api.FdInt, Width: 1}, {Kind: api.FdInt, Width: 8}, {Kind: api.FdVar},
		{Kind: api.FdBytes, Width: 0}, {Kind: api.FdBytes, Width: 4096}, {Kind: api.FdText, Width: 0}, {Kind: api.FdText, Width: 4096},
	} {
		f.Name = "a"
		good = append(good, []api.Field{f})
	}
	good = append(good, []api.Field{{Name: "a", Kind: api.FdVar}, {Name: "A", Kind: api.FdVar}, {Name: "\xff\x00", Kind: api.FdVar}})
	for _, l := range good {
		if e := wire.Check(l); e != api.OK {
			t.Error(l, e)
		}
	}
}

func TestP1_4Size(t *testing.T) {
	for _, c := range []struct {
		l           []api.Field
		least, most int
	}{
		{record(), 4, 7},
		{nil, 0, 0},
		{manyFields(64), 64, 64},
		{[]api.Field{{Name: "a", Kind: api.FdVar}}, 1, 9},
		{[]api.Field{{Name: "a", Kind: api.FdInt, Width: 8}}, 8, 8},
		{[]api.Field{{Name: "a", Kind: api.FdBytes, Width: 0}}, 0, 0},
		{[]api.Field{{Name: "a", Kind: api.FdBytes, Width: 4096}}, 4096, 4096},
		{[]api.Field{{Name: "a", Kind: api.FdText, Width: 0}}, 1, 1},
		{[]api.Field{{Name: "a", Kind: api.FdText, Width: 127}}, 1, 128},
		{[]api.Field{{Name: "a", Kind: api.FdText, Width: 128}}, 1, 130},
		{[]api.Field{{Name: "a", Kind: api.FdText, Width: 4096}}, 1, 4098},
	} {
		if least, most, e := wire.Size(c.l); least != c.least || most != c.most || e != api.OK {
			t.Error(c, least, most, e)
		}
	}
	for _, l := range badLayouts() {
		if least, most, e := wire.Size(l); least != 0 || most != 0 || e != api.ErrArg {
			t.Error(l, least, most, e)
		}
	}
}

func TestP1_5Pack(t *testing.T) {
	b, e := wire.Pack(record(), []api.Datum{{N: 258}, {B: []byte("xy")}, {N: -1}})
	if e != api.OK || string(b) != "\x02\x01\x02xy\xff" {
		t.Error(b, e)
	}
	if b, e := wire.Pack(nil, nil); e != api.OK || len(b) > 0 {
		t.Error(b, e)
	}
	for _, l := range badLayouts() {
		if b, e := wire.Pack(l, make([]api.Datum, len(l))); e != api.ErrArg || len(b) > 0 {
			t.Error(l, b, e)
		}
	}
	for _, many := range []int{0, 2, 4} {
		items := make([]api.Datum, many)
		for i := range items {
			items[i].N = -1 // that there are too many or too few comes before what they are
		}
		if b, e := wire.Pack(record(), items); e != api.ErrArg || len(b) > 0 {
			t.Error(many, b, e)
		}
	}
}

// suiting are single fields with an item, and the bytes of it; none, if it does not suit.
func suiting() []struct {
	f    api.Field
	x    api.Datum
	want []byte
} {
	six := []byte{6}
	return []struct {
		f    api.Field
		x    api.Datum
		want []byte
	}{
		{api.Field{Kind: api.FdUint, Width: 1}, api.Datum{N: 255}, []byte{255}},
		{api.Field{Kind: api.FdUint, Width: 1}, api.Datum{N: 255, B: []byte{}}, []byte{255}},
		{api.Field{Kind: api.FdUint, Width: 1}, api.Datum{N: 256}, nil},
		{api.Field{Kind: api.FdUint, Width: 8}, api.Datum{N: -1}, nil},
		{api.Field{Kind: api.FdUint, Width: 1}, api.Datum{N: 6, B: six}, nil},
		{api.Field{Kind: api.FdUint, Width: 1}, api.Datum{B: six}, nil},
		{api.Field{Kind: api.FdInt, Width: 1}, api.Datum{N: -128}, []byte{128}},
		{api.Field{Kind: api.FdInt, Width: 1}, api.Datum{N: -129}, nil},
		{api.Field{Kind: api.FdInt, Width: 1}, api.Datum{N: 128}, nil},
		{api.Field{Kind: api.FdInt, Width: 1}, api.Datum{N: 6, B: six}, nil},
		{api.Field{Kind: api.FdVar}, api.Datum{N: 300}, []byte{172, 2}},
		{api.Field{Kind: api.FdVar}, api.Datum{N: -1}, nil},
		{api.Field{Kind: api.FdVar}, api.Datum{N: 6, B: six}, nil},
		{api.Field{Kind: api.FdBytes, Width: 2}, api.Datum{B: []byte{6, 7}}, []byte{6, 7}},
		{api.Field{Kind: api.FdBytes, Width: 2}, api.Datum{B: six}, nil},
		{api.Field{Kind: api.FdBytes, Width: 2}, api.Datum{B: []byte{6, 7, 8}}, nil},
		{api.Field{Kind: api.FdBytes, Width: 2}, api.Datum{}, nil},
		{api.Field{Kind: api.FdBytes, Width: 1}, api.Datum{N: 1, B: six}, nil},
		{api.Field{Kind: api.FdText, Width: 2}, api.Datum{}, []byte{0}},
		{api.Field{Kind: api.FdText, Width: 2}, api.Datum{B: []byte{6, 7}}, []byte{2, 6, 7}},
		{api.Field{Kind: api.FdText, Width: 2}, api.Datum{B: []byte{6, 7, 8}}, nil},
		{api.Field{Kind: api.FdText, Width: 2}, api.Datum{N: -1, B: six}, nil},
	}
}

func TestP1_5ItemsThatSuit(t *testing.T) {
	for _, c := range suiting() {
		c.f.Name = "x"
		l := []api.Field{{Name: "a", Kind: api.FdVar}, c.f}
		b, e := wire.Pack(l, []api.Datum{{N: 9}, c.x})
		if c.want == nil {
			if e != api.ErrRange || len(b) > 0 {
				t.Error(c, b, e)
			}
		} else if e != api.OK || !bytes.Equal(b, join([]byte{9}, c.want)) {
			t.Error(c, b, e)
		}
	}
}

func TestP1_5Unpack(t *testing.T) {
	two := func(f api.Field) []api.Field { f.Name = "x"; return []api.Field{{Name: "a", Kind: api.FdVar}, f} }
	huge := bytes.Repeat([]byte{255}, 8)
	for _, c := range []struct {
		l    []api.Field
		b    []byte
		want []api.Datum
		used int
		e    api.Errno
	}{
		{l: record(), b: []byte{2, 1, 2, 120, 121, 255, 7}, want: []api.Datum{{N: 258}, {B: []byte("xy")}, {N: -1}}, used: 6},
		{l: record(), b: []byte{2, 1, 0, 127}, want: []api.Datum{{N: 258}, {}, {N: 127}}, used: 4},
		{l: nil, b: []byte{1}, used: 0},
		{l: record(), b: []byte{2, 1, 4, 120, 121}, e: api.ErrRange},
		{l: record(), b: []byte{2, 1, 4}, e: api.ErrRange},
		{l: record(), b: []byte{2, 1, 3, 120, 121}, e: api.ErrForm},
		{l: record(), b: []byte{2, 1, 2, 120, 121}, e: api.ErrForm},
		{l: record(), b: []byte{2, 1}, e: api.ErrForm},
		{l: record(), b: []byte{2}, e: api.ErrForm},
		{l: record(), b: nil, e: api.ErrForm},
		{l: record(), b: []byte{2, 1, 130, 0, 1, 1, 1}, e: api.ErrForm},
		{l: record(), b: []byte{2, 1, 130}, e: api.ErrForm},
		{l: record(), b: join([]byte{2, 1}, mustVar(math.MaxInt)), e: api.ErrRange},
		{l: two(api.Field{Kind: api.FdVar}), b: []byte{1, 172, 2}, want: []api.Datum{{N: 1}, {N: 300}}, used: 3},
		{l: two(api.Field{Kind: api.FdVar}), b: []byte{1, 128, 0}, e: api.ErrForm},
		{l: two(api.Field{Kind: api.FdVar}), b: join([]byte{1}, huge, huge), e: api.ErrForm},
		{l: two(api.Field{Kind: api.FdUint, Width: 8}), b: join([]byte{1}, huge), e: api.ErrRange},
		{l: two(api.Field{Kind: api.FdUint, Width: 8}), b: join([]byte{1}, huge[:7]), e: api.ErrForm},
		{l: two(api.Field{Kind: api.FdInt, Width: 8}), b: join([]byte{1}, huge), want: []api.Datum{{N: 1}, {N: -1}}, used: 9},
		{l: two(api.Field{Kind: api.FdBytes, Width: 2}), b: []byte{1, 6, 7, 8}, want: []api.Datum{{N: 1}, {B: []byte{6, 7}}}, used: 3},
		{l: two(api.Field{Kind: api.FdBytes, Width: 2}), b: []byte{1, 6}, e: api.ErrForm},
		{l: two(api.Field{Kind: api.FdBytes}), b: []byte{1}, want: []api.Datum{{N: 1}, {}}, used: 1},
		// The first field that cannot be read counts.
		{l: []api.Field{{Name: "t", Kind: api.FdText, Width: 1}, {Name: "v", Kind: api.FdVar}}, b: []byte{2, 128, 0}, e: api.ErrRange},
		{l: []api.Field{{Name: "v", Kind: api.FdVar}, {Name: "t", Kind: api.FdText, Width: 1}}, b: []byte{128, 0, 2}, e: api.ErrForm},
	} {
		if items, used, e := wire.Unpack(c.l, c.b); !sameItems(items, c.want) || used != c.used || e != c.e {
			t.Error(c, items, used, e)
		}
	}
	for _, l := range badLayouts() {
		if items, used, e := wire.Unpack(l, make([]byte, 9000)); e != api.ErrArg || used != 0 || len(items) > 0 {
			t.Error(l, used, e)
		}
	}
}

func TestP1_6Where(t *testing.T) {
	b := []byte{2, 1, 2, 120, 121, 255, 7, 7}
	for i, want := range [][2]int{{0, 2}, {2, 5}, {5, 6}} {
		if from, to, e := wire.Where(record(), b, i); from != want[0] || to != want[1] || e != api.OK {
			t.Error(i, from, to, e)
		}
	}
	for _, i := range []int{-1, 3, math.MaxInt, math.MinInt} {
		if from, to, e := wire.Where(record(), b, i); from != 0 || to != 0 || e != api.ErrArg {
			t.Error(i, from, to, e)
		}
		if _, _, e := wire.Where(record(), b[:5], i); e != api.ErrForm {
			t.Error(i, e)
		}
	}
	if _, _, e := wire.Where(nil, b, 0); e != api.ErrArg {
		t.Error(e)
	}
	// A field that could be read is not told of, if a later one cannot be.
	if from, to, e := wire.Where(record(), b[:5], 0); from != 0 || to != 0 || e != api.ErrForm {
		t.Error(from, to, e)
	}
	if _, _, e := wire.Where(record(), []byte{2, 1, 4}, 0); e != api.ErrRange {
		t.Error(e)
	}
	for _, l := range badLayouts() {
		if _, _, e := wire.Where(l, make([]byte, 9000), 0); e != api.ErrArg {
			t.Error(l, e)
		}
	}
}

func TestP1_6Patch(t *testing.T) {
	b := []byte{2, 1, 2, 120, 121, 255, 7, 7}
	for _, c := range []struct {
		i    int
		x    api.Datum
		want []byte
	}{
		{0, api.Datum{N: 3}, []byte{3, 0, 2, 120, 121, 255, 7, 7}},
		{1, api.Datum{}, []byte{2, 1, 0, 255, 7, 7}},
		{1, api.Datum{B: []byte("abc")}, []byte{2, 1, 3, 97, 98, 99, 255, 7, 7}},
		{2, api.Datum{N: 1}, []byte{2, 1, 2, 120, 121, 1, 7, 7}},
	} {
		if got, e := wire.Patch(record(), b, c.i, c.x); e != api.OK || !bytes.Equal(got, c.want) {
			t.Error(c, got, e)
		}
	}
	for _, c := range []struct {
		l []api.Field
		b []byte
		i int
		x api.Datum
		e api.Errno
	}{
		{record(), b, 0, api.Datum{N: 65536}, api.ErrRange},
		{record(), b, 0, api.Datum{N: 1, B: []byte{1}}, api.ErrRange},
		{record(), b, 1, api.Datum{B: []byte("abcd")}, api.ErrRange},
		{record(), b, 1, api.Datum{N: 1}, api.ErrRange},
		{record(), b, 3, api.Datum{N: 65536}, api.ErrArg},
		{record(), b, -1, api.Datum{}, api.ErrArg},
		{record(), b[:5], 3, api.Datum{}, api.ErrForm},
		{record(), b[:5], 0, api.Datum{N: 65536}, api.ErrForm},
		{record(), []byte{2, 1, 4}, 0, api.Datum{N: 65536}, api.ErrRange},
		{[]api.Field{{Kind: api.FdVar}}, b, 0, api.Datum{}, api.ErrArg},
	} {
		if got, e := wire.Patch(c.l, c.b, c.i, c.x); e != c.e || len(got) > 0 {
			t.Error(c, got, e)
		}
	}
	for _, c := range suiting() {
		c.f.Name = "x"
		l := []api.Field{c.f}
		old, e := wire.Pack(l, []api.Datum{anyItem(chance(), c.f)})
		if e != api.OK {
			t.Fatal(c, e)
		}
		got, e := wire.Patch(l, old, 0, c.x)
		if (e == api.OK) != (c.want != nil) || !bytes.Equal(got, c.want) || e != api.OK && e != api.ErrRange {
			t.Error(c, got, e)
		}
	}
}

func TestP1_8ItemsAreReadBack(t *testing.T) {
	r := chance()
	for range 3000 {
		l := anyLayout(r)
		items := anyItems(r, l)
		b, e := wire.Pack(l, items)
		if e != api.OK {
			t.Fatal(l, items, e)
		}
		got, used, e := wire.Unpack(l, join(b, anyBytes(r, 4)))
		if !sameItems(got, items) || used != len(b) || e != api.OK {
			t.Fatal(l, items, b, got, used, e)
		}
	}
}

func TestP1_9ItemsAreWrittenOneWay(t *testing.T) {
	r := chance()
	read := 0
	for range 50000 {
		l, b := anyLayout(r), fewBytes(r, 40)
		items, used, e := wire.Unpack(l, b)
		if e != api.OK {
			continue
		}
		read++
		if c, e := wire.Pack(l, items); e != api.OK || !bytes.Equal(c, b[:used]) {
			t.Fatal(l, b, items, c, e)
		}
	}
	if read < 1000 {
		t.Error("too few of the bytes could be read:", read)
	}
}

func TestP1_12Sizes(t *testing.T) {
	r := chance()
	for range 3000 {
		l := anyLayout(r)
		items := anyItems(r, l)
		b, e := wire.Pack(l, items)
		least, most, f := wire.Size(l)
		if e != api.OK || f != api.OK || len(b) < least || len(b) > most {
			t.Fatal(l, items, b, e, least, most, f)
		}
		behind := join(b, anyBytes(r, 4))
		end := 0
		for i := range l {
			from, to, e := wire.Where(l, behind, i)
			if from != end || to < from || e != api.OK {
				t.Fatal(l, b, i, from, to, e)
			}
			end = to
		}
		if _, used, _ := wire.Unpack(l, behind); used != end {
			t.Fatal(l, b, used, end)
		}
	}
}

// The bounds of Size are met by the shortest and by the longest items.
func TestP1_12SizesAreMet(t *testing.T) {
	l := append(record(), api.Field{Name: "v", Kind: api.FdVar}, api.Field{Name: "w", Kind: api.FdText, Width: 128}, api.Field{Name: "z", Kind: api.FdBytes, Width: 3})
	least, most, _ := wire.Size(l)
	short, e := wire.Pack(l, []api.Datum{{}, {}, {}, {}, {}, {B: make([]byte, 3)}})
	if len(short) != least || e != api.OK {
		t.Error(len(short), least, e)
	}
	long, e := wire.Pack(l, []api.Datum{{}, {B: make([]byte, 3)}, {}, {N: math.MaxInt}, {B: make([]byte, 128)}, {B: make([]byte, 3)}})
	if len(long) != most || e != api.OK {
		t.Error(len(long), most, e)
	}
}

func TestP1_13Patched(t *testing.T) {
	r := chance()
	for range 5000 {
		l := anyLayout(r)
		if len(l) == 0 {
			continue
		}
		items := anyItems(r, l)
		packed, _ := wire.Pack(l, items)
		b := join(packed, anyBytes(r, 4))
		i := r.Intn(len(l))
		x := anyItem(r, l[i])
		c, e := wire.Patch(l, b, i, x)
		want := slices.Clone(items)
		want[i] = x
		got, used, f := wire.Unpack(l, c)
		if e != api.OK || f != api.OK || !sameItems(got, want) || !bytes.Equal(c[used:], b[len(packed):]) {
			t.Fatal(l, b, i, x, c, e, got, f)
		}
		if back, e := wire.Patch(l, c, i, items[i]); e != api.OK || !bytes.Equal(back, b) {
			t.Fatal(l, b, i, x, back, e)
		}
	}
}
