package runs_test

import (
	"bytes"
	"math"
	"slices"
	"testing"

	"archivolt/api"
	"archivolt/runs"
)

func TestP4_6Pack(t *testing.T) {
	for _, c := range []struct {
		l     []api.Run
		most  int
		b     []byte
		pages int
	}{
		{sample(), 100, []byte{17, 2, 5, 1, 1, 17, 3, 2, 0}, 6},
		{sample(), math.MaxInt, []byte{17, 2, 5, 1, 1, 17, 3, 2, 0}, 6},
		{sample(), 9, []byte{17, 2, 5, 1, 1, 17, 3, 2, 0}, 6},
		{sample(), 8, []byte{17, 2, 5, 1, 1, 0}, 3},
		{sample(), 7, []byte{17, 2, 5, 1, 1, 0}, 3},
		{sample(), 6, []byte{17, 2, 5, 1, 1, 0}, 3},
		{sample(), 5, []byte{17, 2, 5, 0}, 2},
		{sample(), 4, []byte{17, 2, 5, 0}, 2},
		{sample(), 3, []byte{0}, 0},
		{sample(), 1, []byte{0}, 0},
		{nil, 1, []byte{0}, 0},
		{list(300, 1, 2, 1), 100, []byte{33, 1, 44, 1, 33, 1, 214, 254, 0}, 2},
		{list(5, 2, 7, 3), 100, []byte{17, 5, 5, 0}, 5},
		{list(-1, 1, -1, 2), 100, []byte{1, 3, 0}, 3},
		// The place is that of the last run that is no hole, 0 ahead of the first one.
		{list(-1, 7, 9, 1), 100, []byte{1, 7, 17, 1, 9, 0}, 8},
		{list(9, 1, -1, 2, 9, 1), 100, []byte{17, 1, 9, 1, 2, 17, 1, 0, 0}, 4},
		// A run that does not fit ends what is packed, though a later one would fit.
		{list(300, 300, 1, 1, -1, 1), 5, []byte{0}, 0},
		{list(1, 1, 300, 300, -1, 1), 7, []byte{17, 1, 1, 0}, 1},
	} {
		if b, pages, e := runs.Pack(c.l, c.most); !bytes.Equal(b, c.b) || pages != c.pages || e != api.OK {
			t.Error(c, b, pages, e)
		}
	}
}

func TestP4_6Widths(t *testing.T) {
	const most = api.MaxMapped
	for _, c := range []struct {
		l []api.Run
		b []byte
	}{
		{list(-1, 1), []byte{1, 1, 0}}, {list(-1, 127), []byte{1, 127, 0}}, {list(-1, 128), []byte{1, 128, 0}}, {list(-1, 255), []byte{1, 255, 0}},
		{list(-1, 256), []byte{2, 0, 1, 0}}, {list(-1, 1<<16-1), []byte{2, 255, 255, 0}}, {list(-1, 1<<16), []byte{3, 0, 0, 1, 0}},
		{list(-1, 1<<24-1), []byte{3, 255, 255, 255, 0}}, {list(-1, 1<<24), []byte{4, 0, 0, 0, 1, 0}}, {list(-1, most), []byte{4, 0, 0, 0, 64, 0}},
		{list(0, most), []byte{20, 0, 0, 0, 64, 0, 0}},
		{list(0, 1), []byte{17, 1, 0, 0}}, {list(127, 1), []byte{17, 1, 127, 0}}, {list(128, 1), []byte{33, 1, 128, 0, 0}},
		{list(1<<15-1, 1), []byte{33, 1, 255, 127, 0}}, {list(1<<15, 1), []byte{49, 1, 0, 128, 0, 0}},
		{list(1<<23-1, 1), []byte{49, 1, 255, 255, 127, 0}}, {list(1<<23, 1), []byte{65, 1, 0, 0, 128, 0, 0}},
		{list(most-1, 1), []byte{65, 1, 255, 255, 255, 63, 0}},
		{list(128, 1, 0, 1), []byte{33, 1, 128, 0, 17, 1, 128, 0}}, {list(129, 1, 0, 1), []byte{33, 1, 129, 0, 33, 1, 127, 255, 0}},
		{list(1<<15, 1, 0, 1), []byte{49, 1, 0, 128, 0, 33, 1, 0, 128, 0}}, {list(1<<15+1, 1, 0, 1), []byte{49, 1, 1, 128, 0, 49, 1, 255, 127, 255, 0}},
		{list(1<<23, 1, 0, 1), []byte{65, 1, 0, 0, 128, 0, 49, 1, 0, 0, 128, 0}}, {list(1<<23+1, 1, 0, 1), []byte{65, 1, 1, 0, 128, 0, 65, 1, 255, 255, 127, 255, 0}},
		{list(most-1, 1, 0, 1), []byte{65, 1, 255, 255, 255, 63, 65, 1, 1, 0, 0, 192, 0}},
		{list(3, 1, 2, 1), []byte{17, 1, 3, 17, 1, 255, 0}}, {list(3, 1, 3, 1), []byte{17, 1, 3, 17, 1, 0, 0}},
	} {
		b, _, e := runs.Pack(c.l, 100)
		if !bytes.Equal(b, c.b) || e != api.OK {
			t.Error(c, b, e)
		}
		if l, n, e := runs.Unpack(c.b); !slices.Equal(l, c.l) || n != len(c.b) || e != api.OK {
			t.Error(c, l, n, e)
		}
	}
}

func TestP4_6Errors(t *testing.T) {
	for _, most := range []int{0, -1, math.MinInt} {
		for _, l := range [][]api.Run{nil, sample(), notValid()[0], tooLong()[0]} {
			want(t, seePacked(runs.Pack(l, most)), api.ErrArg, most)
		}
	}
	for _, l := range tooLong() {
		want(t, seePacked(runs.Pack(l, 1)), api.ErrLimit)
	}
	for _, l := range notValid() {
		want(t, seePacked(runs.Pack(l, 1)), api.ErrArg)
	}
}

// plainWidth returns the least width at which a number lies between the bounds of that width.
func plainWidth(n int, low, high [4]int) int {
	for i := range 4 {
		if n >= low[i] && n <= high[i] {
			return i + 1
		}
	}
	return 0
}

// plainPack is Pack of a normal form as the chapter tells it.
func plainPack(l []api.Run, most int) (b []byte, pages int) {
	last := 0
	for _, r := range l {
		w := plainWidth(r.Many, [4]int{}, [4]int{1<<8 - 1, 1<<16 - 1, 1<<24 - 1, 1<<32 - 1})
		h, far := 0, 0
		if r.To != -1 {
			far = r.To - last
			h = plainWidth(far, [4]int{-1 << 7, -1 << 15, -1 << 23, -1 << 31}, [4]int{1<<7 - 1, 1<<15 - 1, 1<<23 - 1, 1<<31 - 1})
		}
		if len(b)+1+w+h+1 > most {
			break
		}
		b = append(b, byte(16*h+w))
		for i := range w {
			b = append(b, byte(r.Many>>(8*i)&255))
		}
		for i := range h {
			b = append(b, byte(far>>(8*i)&255))
		}
		pages += r.Many
		if r.To != -1 {
			last = r.To
		}
	}
	return append(b, 0), pages
}

// manySizes returns a mapping of numbers of all widths, in the normal form.
func manySizes(t *testing.T, number func(int) int) []api.Run {
	var l []api.Run
	for range number(12) {
		r := api.Run{To: number(1 << (1 + number(29))), Many: 1 + number(1<<number(26))}
		if number(4) == 0 {
			r.To = -1
		}
		l = append(l, r)
	}
	return good[[]api.Run](t)(runs.Norm(l))
}

func TestP4_6LikeTheChapter(t *testing.T) {
	r := chance()
	for range 2000 {
		l := manySizes(t, r.Intn)
		for _, most := range []int{1 + r.Intn(60), 1 + r.Intn(150), 1000} {
			bytesWanted, many := plainPack(l, most)
			if b, pages, e := runs.Pack(l, most); !bytes.Equal(b, bytesWanted) || pages != many || e != api.OK {
				t.Fatal(l, most, b, pages, e)
			}
		}
	}
}

func TestP4_7Unpack(t *testing.T) {
	for _, c := range []struct {
		b []byte
		l []api.Run
		n int
	}{
		{[]byte{0}, nil, 1}, {[]byte{0, 0}, nil, 1}, {[]byte{0, 1, 2}, nil, 1},
		{[]byte{17, 2, 5, 1, 1, 17, 3, 2, 0}, sample(), 9}, {[]byte{17, 2, 5, 1, 1, 17, 3, 2, 0, 17, 1}, sample(), 9},
		{[]byte{33, 1, 44, 1, 33, 1, 214, 254, 0, 0}, list(300, 1, 2, 1), 9},
		{[]byte{1, 1, 17, 1, 0, 0}, list(-1, 1, 0, 1), 6},
	} {
		if l, n, e := runs.Unpack(c.b); !slices.Equal(l, c.l) || n != c.n || e != api.OK {
			t.Error(c, l, n, e)
		}
	}
}

func TestP4_7NotWhatPackMakes(t *testing.T) {
	for _, b := range [][]byte{
		nil, {}, {1}, {1, 2}, {17, 2}, {17, 2, 5}, {17, 2, 5, 1}, {34, 0, 1, 5, 0}, // they end too early
		{16, 0}, {16, 1, 0}, {32, 1, 1, 0}, // w is 0
		{5, 1, 1, 1, 1, 1, 0}, {15, 1}, {21, 1, 1, 1, 1, 1, 5, 0}, {81, 1, 1, 1, 1, 1, 1, 0}, {241, 1, 1, 0}, {255, 0}, // w or h is above 4
		{1, 0, 0}, {17, 0, 0, 0}, {17, 0, 5, 0}, // no pages
		{2, 5, 0, 0}, {18, 1, 0, 0, 0}, {3, 1, 1, 0, 0}, {4, 1, 1, 1, 0, 0}, {2, 0, 0, 0}, // Many in more bytes than it needs
		{33, 1, 5, 0, 0}, {33, 1, 127, 0, 0}, {49, 1, 5, 1, 0, 0}, {65, 1, 0, 0, 127, 0, 0}, {33, 1, 0, 0, 0}, // To likewise
		{17, 1, 5, 33, 1, 255, 255, 0}, {33, 1, 0, 2, 33, 1, 128, 255, 0}, // a distance less than 0 likewise
		{17, 1, 255, 0}, {17, 1, 254, 0}, {17, 1, 5, 17, 1, 250, 0}, {17, 1, 5, 17, 1, 249, 0}, {65, 1, 0, 0, 0, 128, 0}, // To is less than 0
		{1, 1, 1, 1, 0}, {17, 1, 3, 17, 1, 1, 0}, {17, 2, 3, 1, 1, 1, 1, 0}, {17, 2, 3, 17, 1, 2, 0}, // not in the normal form
		{4, 1, 0, 0, 64, 0}, {4, 255, 255, 255, 255, 0}, {4, 0, 0, 0, 128, 0}, {20, 0, 0, 0, 64, 1, 0}, {20, 255, 255, 255, 255, 0, 0}, // too many pages
		{65, 1, 0, 0, 0, 64, 0}, {65, 2, 255, 255, 255, 63, 0}, {65, 1, 255, 255, 255, 127, 0}, {65, 1, 255, 255, 255, 63, 17, 1, 2, 0}, // they lie too far
		{4, 0, 0, 0, 64, 17, 1, 5, 0}, {20, 0, 0, 0, 64, 0, 1, 1, 0}, // too many together
	} {
		want(t, seeRuns(runs.Unpack(b)), api.ErrForm, b)
	}
}

func TestP4_7ManyRuns(t *testing.T) {
	pair := []byte{17, 1, 0, 1, 1} // the page 0, and a hole
	full := append(bytes.Repeat(pair, api.MaxRuns/2), 0)
	if l, n, e := runs.Unpack(full); len(l) != api.MaxRuns || n != len(full) || e != api.OK {
		t.Error(len(l), n, e)
	}
	more := append(bytes.Repeat(pair, api.MaxRuns/2), 17, 1, 0, 0)
	want(t, seeRuns(runs.Unpack(more)), api.ErrForm)
	want(t, seeRuns(runs.Unpack(bytes.Repeat([]byte{17, 1, 0}, 1<<20))), api.ErrForm)
	want(t, seeRuns(runs.Unpack(bytes.Repeat([]byte{1}, 1<<20))), api.ErrForm)
}

// plainUnpack is Unpack as the chapter tells it: it reads what some bytes may be, and packs this again.
func plainUnpack(b []byte) (l []api.Run, n int, is bool) {
	at, last, pages := 0, 0, 0
	for at < len(b) && b[at] != 0 {
		w, h := int(b[at]%16), int(b[at]/16)
		if w < 1 || w > 4 || h > 4 || at+1+w+h > len(b) {
			return nil, 0, false
		}
		r := api.Run{To: -1, Many: plainNumber(b[at+1 : at+1+w])}
		if h > 0 {
			far := plainNumber(b[at+1+w : at+1+w+h])
			if far >= 1<<(8*h-1) {
				far -= 1 << (8 * h)
			}
			last += far
			r.To = last
		}
		pages += r.Many
		if h > 0 && r.To < 0 || r.Many < 1 || r.Many+max(r.To, 0) > api.MaxMapped || pages > api.MaxMapped {
			return nil, 0, false
		}
		if n := len(l); n > 0 && (r.To == -1 && l[n-1].To == -1 || r.To > 0 && l[n-1].To >= 0 && r.To == l[n-1].To+l[n-1].Many) {
			return nil, 0, false
		}
		l = append(l, r)
		at += 1 + w + h
	}
	if at == len(b) {
		return nil, 0, false
	}
	again, _ := plainPack(l, at+1)
	return l, at + 1, bytes.Equal(again, b[:at+1])
}

func plainNumber(b []byte) int {
	n := 0
	for i, x := range b {
		n += int(x) << (8 * i)
	}
	return n
}

// anyBytes returns bytes that often are what Pack makes, or nearly that.
func anyBytes(t *testing.T, number func(int) int) []byte {
	var b []byte
	if number(2) == 0 {
		for range number(12) {
			b = append(b, []byte{0, 0, 1, 1, 2, 3, 5, 16, 17, 17, 17, 18, 19, 33, 34, 49, 127, 128, 255}[number(19)])
		}
		return b
	}
	b, _ = good2[[]byte, int](t)(runs.Pack(manySizes(t, number), 1+number(60)))
	for range number(3) {
		b[number(len(b))] = byte(number(256))
	}
	return append(b[:len(b)-number(2)], make([]byte, number(3))...)
}

func TestP4_7LikeTheChapter(t *testing.T) {
	r := chance()
	right, wrong := 0, 0
	for range 100000 {
		b := anyBytes(t, r.Intn)
		l, n, is := plainUnpack(b)
		got, many, e := runs.Unpack(b)
		if !is {
			wrong++
			want(t, seeRuns(got, many, e), api.ErrForm, b)
			continue
		}
		if len(l) > 1 {
			right++
		}
		if !slices.Equal(got, l) || many != n || e != api.OK {
			t.Fatal(b, got, many, e, "instead of", l, n)
		}
	}
	if right < 1000 || wrong < 1000 {
		t.Error("too few", right, wrong)
	}
}
