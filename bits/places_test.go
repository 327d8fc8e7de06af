package bits_test

import (
	"math"
	"slices"
	"testing"

	"archivolt/api"
	"archivolt/bits"
)

func TestP3_5Runs(t *testing.T) {
	for _, c := range []struct {
		b    api.Bits
		on   bool
		want []api.Range
	}{
		{one(), false, []api.Range{{At: 2, Many: 3}, {At: 6, Many: 5}}},
		{one(), true, []api.Range{{At: 0, Many: 2}, {At: 5, Many: 1}, {At: 11, Many: 1}}},
		{api.Bits{}, true, nil},
		{api.Bits{}, false, nil},
		{api.Bits{N: 9, B: []byte{255, 1}}, true, []api.Range{{At: 0, Many: 9}}},
		{api.Bits{N: 9, B: []byte{255, 1}}, false, nil},
		{api.Bits{N: 9, B: []byte{0, 0}}, false, []api.Range{{At: 0, Many: 9}}},
		{api.Bits{N: 9, B: []byte{0, 0}}, true, nil},
		{api.Bits{N: 16, B: []byte{255, 0}}, false, []api.Range{{At: 8, Many: 8}}},
		{api.Bits{N: 16, B: []byte{255, 0}}, true, []api.Range{{At: 0, Many: 8}}},
		{api.Bits{N: 1, B: []byte{1}}, true, []api.Range{{At: 0, Many: 1}}},
	} {
		if l, e := bits.Runs(c.b, c.on); !slices.Equal(l, c.want) || e != api.OK {
			t.Error(c, l, e)
		}
	}
	r := chance()
	for _, n := range severalSizes() {
		for _, on := range []bool{false, true} {
			m := anyBools(r, n)
			if l, e := bits.Runs(pack(m), on); !slices.Equal(l, plainRuns(m, on)) || e != api.OK {
				t.Error(n, on, e)
			}
		}
	}
}

func TestP3_6Find(t *testing.T) {
	for _, c := range []struct {
		many, how, near, want int
		e                     api.Errno
	}{
		{2, api.FindFirst, 0, 2, api.OK}, {2, api.FindFirst, 12, 2, api.OK}, {4, api.FindFirst, 0, 6, api.OK}, {6, api.FindFirst, 0, 0, api.ErrNone},
		{2, api.FindBest, 0, 2, api.OK}, {2, api.FindBest, 9, 2, api.OK}, {4, api.FindBest, 0, 6, api.OK}, {5, api.FindBest, 0, 6, api.OK}, {6, api.FindBest, 0, 0, api.ErrNone},
		{2, api.FindNext, 3, 3, api.OK}, {2, api.FindNext, 4, 6, api.OK}, {2, api.FindNext, 5, 6, api.OK}, {2, api.FindNext, 8, 8, api.OK}, {2, api.FindNext, 9, 9, api.OK},
		{2, api.FindNext, 10, 2, api.OK}, {1, api.FindNext, 12, 2, api.OK}, {5, api.FindNext, 7, 6, api.OK}, {6, api.FindNext, 3, 0, api.ErrNone},
		{12, api.FindNext, 0, 0, api.ErrNone}, {13, api.FindBest, 0, 0, api.ErrNone}, {math.MaxInt, api.FindFirst, 0, 0, api.ErrNone}, {math.MaxInt, api.FindNext, 12, 0, api.ErrNone}, {math.MaxInt, api.FindBest, 0, 0, api.ErrNone},
	} {
		if at, e := bits.Find(one(), c.many, c.how, c.near); at != c.want || e != c.e {
			t.Error(c, at, e)
		}
	}
}

// The runs of clear bits have 6, 2, 1 and 2 bits: the best one is no longer than it must be, and ahead of equally long ones.
func TestP3_6FindBest(t *testing.T) {
	b := api.Bits{N: 16, B: []byte{0b11000000, 0b00101001}}
	for _, c := range []struct{ many, want int }{{1, 12}, {2, 9}, {3, 0}, {6, 0}} {
		if at, e := bits.Find(b, c.many, api.FindBest, 0); at != c.want || e != api.OK {
			t.Error(c, at, e)
		}
	}
}

func TestP3_6Errors(t *testing.T) {
	for _, c := range []struct{ many, how, near int }{
		{0, api.FindFirst, 0}, {-1, api.FindBest, 0}, {math.MinInt, api.FindNext, 0},
		{1, 0, 0}, {1, 4, 0}, {1, -1, 0}, {1, math.MaxInt, 0}, {1, math.MinInt, 0},
		{1, api.FindFirst, -1}, {1, api.FindBest, -1}, {1, api.FindNext, -1}, {1, api.FindFirst, 13}, {1, api.FindBest, 13}, {1, api.FindNext, 13},
		{1, api.FindNext, math.MaxInt}, {1, api.FindNext, math.MinInt},
		// ErrArg goes ahead of ErrNone.
		{100, 0, 0}, {100, api.FindNext, 13},
	} {
		if at, e := bits.Find(one(), c.many, c.how, c.near); at != 0 || e != api.ErrArg {
			t.Error(c, at, e)
		}
	}
	for how := api.FindFirst; how <= api.FindNext; how++ {
		if at, e := bits.Find(api.Bits{}, 1, how, 0); at != 0 || e != api.ErrNone {
			t.Error(how, at, e)
		}
		if at, e := bits.Find(api.Bits{N: 3, B: []byte{7}}, 1, how, 3); at != 0 || e != api.ErrNone {
			t.Error(how, at, e)
		}
	}
}

func TestP3_6FindIsPlain(t *testing.T) {
	r := chance()
	for range 3000 {
		l := anyBools(r, r.Intn(60))
		many, how, near := 1+r.Intn(8), 1+r.Intn(3), r.Intn(len(l)+1)
		want, e := plainFind(l, many, how, near), api.OK
		if want < 0 {
			want, e = 0, api.ErrNone
		}
		if at, f := bits.Find(pack(l), many, how, near); at != want || e != f {
			t.Fatal(l, many, how, near, at, f)
		}
	}
}

func TestP3_7Gather(t *testing.T) {
	for _, c := range []struct {
		b          api.Bits
		many, near int
		want       []api.Range
		e          api.Errno
	}{
		{one(), 7, 0, []api.Range{{At: 2, Many: 2}, {At: 6, Many: 5}}, api.OK},
		{one(), 6, 12, []api.Range{{At: 2, Many: 1}, {At: 6, Many: 5}}, api.OK},
		{one(), 8, 5, []api.Range{{At: 2, Many: 3}, {At: 6, Many: 5}}, api.OK},
		{one(), 4, 0, []api.Range{{At: 6, Many: 4}}, api.OK},
		{one(), 3, 0, []api.Range{{At: 2, Many: 3}}, api.OK},
		{one(), 3, 3, []api.Range{{At: 6, Many: 3}}, api.OK},
		{one(), 2, 3, []api.Range{{At: 3, Many: 2}}, api.OK},
		{one(), 2, 10, []api.Range{{At: 2, Many: 2}}, api.OK},
		{one(), 5, 8, []api.Range{{At: 6, Many: 5}}, api.OK},
		{one(), 9, 0, nil, api.ErrNone},
		{one(), math.MaxInt, 0, nil, api.ErrNone},
		{one(), 0, 0, nil, api.ErrArg},
		{one(), -1, 0, nil, api.ErrArg},
		{one(), math.MinInt, 0, nil, api.ErrArg},
		{one(), 1, -1, nil, api.ErrArg},
		{one(), 1, 13, nil, api.ErrArg},
		{one(), 100, 13, nil, api.ErrArg},
		{api.Bits{}, 1, 0, nil, api.ErrNone},
		{api.Bits{N: 8, B: []byte{255}}, 1, 0, nil, api.ErrNone},
		// Of equally long runs the first ones are taken, of the last one its first bits.
		{api.Bits{N: 11, B: []byte{0b00100100, 0b1}}, 3, 0, []api.Range{{At: 0, Many: 2}, {At: 3, Many: 1}}, api.OK},
		{api.Bits{N: 11, B: []byte{0b00100100, 0b1}}, 5, 9, []api.Range{{At: 0, Many: 2}, {At: 3, Many: 2}, {At: 6, Many: 1}}, api.OK},
	} {
		if l, e := bits.Gather(c.b, c.many, c.near); !slices.Equal(l, c.want) || e != c.e {
			t.Error(c, l, e)
		}
	}
}

func TestP3_7GatherIsPlain(t *testing.T) {
	r := chance()
	for range 3000 {
		l := anyBools(r, r.Intn(60))
		many, near := 1+r.Intn(30), r.Intn(len(l)+1)
		want, e := plainGather(l, many, near), api.OK
		if want == nil {
			e = api.ErrNone
		}
		if got, f := bits.Gather(pack(l), many, near); !slices.Equal(got, want) || e != f {
			t.Fatal(l, many, near, got, f)
		}
	}
}

// As many runs as there can be are gathered in reasonable time.
func TestP3_7GatherMost(t *testing.T) {
	l := make([]bool, api.MaxBits)
	for i := range l {
		l[i] = i%2 == 1
	}
	got, e := bits.Gather(pack(l), api.MaxBits/2, 9)
	if !slices.Equal(got, plainRuns(l, false)) || e != api.OK {
		t.Error(len(got), e)
	}
}
