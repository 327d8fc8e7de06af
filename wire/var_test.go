package wire_test

import (
	"bytes"
	"math"
	"slices"
	"testing"

	"archivolt/api"
	"archivolt/wire"
)

func TestP1_2Var(t *testing.T) {
	for _, c := range []struct {
		n    int
		want []byte
		e    api.Errno
	}{
		{n: 0, want: []byte{0}},
		{n: 1, want: []byte{1}},
		{n: 127, want: []byte{127}},
		{n: 128, want: []byte{128, 1}},
		{n: 300, want: []byte{172, 2}},
		{n: 16383, want: []byte{255, 127}},
		{n: 16384, want: []byte{128, 128, 1}},
		{n: math.MaxInt, want: []byte{255, 255, 255, 255, 255, 255, 255, 255, 127}},
		{n: -1, e: api.ErrRange},
		{n: math.MinInt, e: api.ErrRange},
	} {
		if b, e := wire.Var(c.n); e != c.e || !bytes.Equal(b, c.want) {
			t.Error(c, b, e)
		}
	}
}

func TestP1_2ToVar(t *testing.T) {
	eight := bytes.Repeat([]byte{255}, 8)
	for _, c := range []struct {
		b       []byte
		n, used int
		e       api.Errno
	}{
		{b: []byte{172, 2, 9}, n: 300, used: 2},
		{b: []byte{0}, n: 0, used: 1},
		{b: []byte{0, 0}, n: 0, used: 1},
		{b: []byte{127, 200}, n: 127, used: 1},
		{b: join(eight, []byte{127}), n: math.MaxInt, used: 9},
		{b: join(eight, []byte{1, 7}), n: 1<<57 - 1, used: 9},
		{b: nil, e: api.ErrForm},
		{b: []byte{}, e: api.ErrForm},
		{b: []byte{172}, e: api.ErrForm},
		{b: []byte{128}, e: api.ErrForm},
		{b: []byte{255, 255}, e: api.ErrForm},
		{b: eight, e: api.ErrForm},
		{b: []byte{128, 0}, e: api.ErrForm},
		{b: []byte{255, 128, 0, 1}, e: api.ErrForm},
		{b: join(eight, []byte{0}), e: api.ErrForm},
		{b: join(eight, []byte{128}), e: api.ErrForm},
		{b: join(eight, []byte{128, 1}), e: api.ErrForm},
		{b: join(eight, []byte{255, 1}), e: api.ErrForm},
	} {
		if n, used, e := wire.ToVar(c.b); n != c.n || used != c.used || e != c.e {
			t.Error(c, n, used, e)
		}
	}
}

func TestP1_2Fold(t *testing.T) {
	for _, c := range []struct {
		n, want int
		e       api.Errno
	}{
		{n: 0, want: 0}, {n: -1, want: 1}, {n: 1, want: 2}, {n: -2, want: 3},
		{n: 1<<62 - 1, want: math.MaxInt - 1}, {n: -1 << 62, want: math.MaxInt},
		{n: 1 << 62, e: api.ErrRange}, {n: -1<<62 - 1, e: api.ErrRange},
		{n: math.MaxInt, e: api.ErrRange}, {n: math.MinInt, e: api.ErrRange},
	} {
		if n, e := wire.Fold(c.n); n != c.want || e != c.e {
			t.Error(c, n, e)
		}
	}
	for _, c := range []struct {
		n, want int
		e       api.Errno
	}{
		{n: 0, want: 0}, {n: 1, want: -1}, {n: 2, want: 1}, {n: 3, want: -2},
		{n: math.MaxInt, want: -1 << 62}, {n: math.MaxInt - 1, want: 1<<62 - 1},
		{n: -1, e: api.ErrRange}, {n: math.MinInt, e: api.ErrRange},
	} {
		if n, e := wire.Unfold(c.n); n != c.want || e != c.e {
			t.Error(c, n, e)
		}
	}
}

func TestP1_3Text(t *testing.T) {
	long := bytes.Repeat([]byte{7}, api.MaxText+1)
	for _, c := range []struct {
		b, want []byte
		e       api.Errno
	}{
		{b: []byte("ab"), want: []byte{2, 97, 98}},
		{b: nil, want: []byte{0}},
		{b: []byte{0, 255, 128}, want: []byte{3, 0, 255, 128}},
		{b: long[:127], want: join([]byte{127}, long[:127])},
		{b: long[:128], want: join([]byte{128, 1}, long[:128])},
		{b: long[:api.MaxText], want: join([]byte{255, 255, 3}, long[:api.MaxText])},
		{b: long, e: api.ErrLimit},
	} {
		if b, e := wire.Text(c.b); e != c.e || !bytes.Equal(b, c.want) {
			t.Error(len(c.b), len(b), e)
		}
	}
}

func TestP1_3ToText(t *testing.T) {
	long := bytes.Repeat([]byte{7}, api.MaxText+1)
	for _, c := range []struct {
		b, want []byte
		used    int
		e       api.Errno
	}{
		{b: []byte{2, 97, 98, 99}, want: []byte("ab"), used: 3},
		{b: []byte{0}, used: 1},
		{b: []byte{0, 1}, used: 1},
		{b: []byte{1, 0}, want: []byte{0}, used: 2},
		{b: join([]byte{128, 1}, long[:200]), want: long[:128], used: 130},
		{b: join([]byte{255, 255, 3}, long), want: long[:api.MaxText], used: api.MaxText + 3},
		{b: []byte{3, 97}, e: api.ErrForm},
		{b: []byte{1}, e: api.ErrForm},
		{b: nil, e: api.ErrForm},
		{b: []byte{130}, e: api.ErrForm},
		{b: []byte{130, 0, 97, 97}, e: api.ErrForm},
		{b: bytes.Repeat([]byte{128}, 20), e: api.ErrForm},
		{b: join([]byte{255, 255, 3}, long[:api.MaxText-1]), e: api.ErrForm},
		{b: join([]byte{128, 128, 4}, long), e: api.ErrLimit},
		{b: []byte{128, 128, 4}, e: api.ErrLimit},
		{b: mustVar(math.MaxInt), e: api.ErrLimit},
	} {
		if b, used, e := wire.ToText(c.b); e != c.e || used != c.used || !bytes.Equal(b, c.want) {
			t.Error(len(c.b), len(b), used, e)
		}
	}
}

func TestP1_8VarsTextsAndFoldsAreReadBack(t *testing.T) {
	r := chance()
	list := edges()
	for range 5000 {
		list = append(list, anyNumber(r))
	}
	for _, n := range list {
		behind := anyBytes(r, 3)
		if b, e := wire.Var(n); e == api.OK {
			m, used, e := wire.ToVar(join(b, behind))
			if m != n || used != len(b) || e != api.OK {
				t.Fatal(n, b, behind, m, used, e)
			}
		} else if n >= 0 {
			t.Fatal(n, e)
		}
		if m, e := wire.Fold(n); e == api.OK {
			if k, e := wire.Unfold(m); k != n || e != api.OK {
				t.Fatal(n, m, k, e)
			}
		}
	}
	for range 2000 {
		text, behind := anyBytes(r, 300), anyBytes(r, 3)
		b, _ := wire.Text(text)
		got, used, e := wire.ToText(join(b, behind))
		if !bytes.Equal(got, text) || used != len(b) || e != api.OK {
			t.Fatal(text, b, behind, got, used, e)
		}
	}
}

func TestP1_9VarsAndTextsAreWrittenOneWay(t *testing.T) {
	r := chance()
	for range 50000 {
		b := fewBytes(r, 11)
		if n, used, e := wire.ToVar(b); e == api.OK {
			if c, e := wire.Var(n); !bytes.Equal(c, b[:used]) || e != api.OK {
				t.Fatal(b, n, c, e)
			}
		}
		if text, used, e := wire.ToText(b); e == api.OK {
			if c, e := wire.Text(text); !bytes.Equal(c, b[:used]) || e != api.OK {
				t.Fatal(b, text, c, e)
			}
		}
	}
}

func TestP1_11NoPrefixes(t *testing.T) {
	r := chance()
	numbers := []int{0, 1, 127, 128, 255, 16383, 16384, math.MaxInt}
	for range 100 {
		numbers = append(numbers, anyNumber(r)&math.MaxInt)
	}
	for _, n := range numbers {
		for _, m := range numbers {
			if n != m && bytes.HasPrefix(mustVar(n), mustVar(m)) {
				t.Error(n, m)
			}
		}
	}
	for range 20000 {
		x, y := fewBytes(r, 3), fewBytes(r, 3)
		a, _ := wire.Text(x)
		b, _ := wire.Text(y)
		if !bytes.Equal(x, y) && bytes.HasPrefix(a, b) {
			t.Fatal(x, y)
		}
	}
}

func TestP1_11RefusedWhateverFollows(t *testing.T) {
	r := chance()
	for range 50000 {
		b := fewBytes(r, 11)
		if _, _, e := wire.ToVar(b); e == api.OK {
			continue
		}
		endsWithin := len(b) < 9 && !slices.ContainsFunc(b, func(x byte) bool { return x < 128 })
		_, _, e := wire.ToVar(join(b, []byte{1}))
		if (e == api.OK) != endsWithin {
			t.Fatal(b, e)
		}
		for range 5 {
			if _, _, e := wire.ToVar(join(b, fewBytes(r, 4))); !endsWithin && e != api.ErrForm {
				t.Fatal(b, e)
			}
		}
	}
}

func TestP1_15FoldIncreases(t *testing.T) {
	r := chance()
	list := edges()
	for range 300 {
		list = append(list, anyNumber(r))
	}
	for _, n := range list {
		a, e := wire.Fold(n)
		if e != api.OK {
			continue
		}
		for _, m := range list {
			b, f := wire.Fold(m)
			farther := (n >= 0) == (m >= 0) && (n >= 0 && m > n || n < 0 && m < n)
			if f == api.OK && farther && b <= a {
				t.Fatal(n, m, a, b)
			}
		}
	}
	for _, n := range list {
		if n < 0 {
			continue
		}
		m, e := wire.Unfold(n)
		if k, f := wire.Fold(m); k != n || e != api.OK || f != api.OK {
			t.Fatal(n, m, e, k, f)
		}
	}
}
