package press_test

import (
	"bytes"
	"slices"
	"testing"

	"archivolt/api"
	"archivolt/press"
)

// ways are the two compressors.
func ways() map[string]func([]byte) ([]byte, api.Errno) {
	return map[string]func([]byte) ([]byte, api.Errno){"Press": press.Press, "Best": press.Best}
}

// eachData calls do for data of each kind and length.
func eachData(do func(b []byte)) {
	r := chance()
	for range 500 {
		do(anyData(r, 200, 1+r.Intn(6)))
		do(anyData(r, 20, 1+r.Intn(3)))
	}
	for range 20 {
		do(anyUnit(r)[:r.Intn(api.MaxUnit+1)])
	}
	for _, b := range units() {
		do(b)
		do(b[:1+r.Intn(len(b))])
	}
}

func TestP6_4RoundTrip(t *testing.T) {
	for name, way := range ways() {
		eachData(func(b []byte) {
			c := good[[]byte](t)(way(b))
			if got, e := press.Expand(c); !bytes.Equal(got, b) || e != api.OK {
				t.Errorf("%s: %d bytes, %v", name, len(b), e)
			}
			if many, e := press.Size(c); many != len(b) || e != api.OK {
				t.Error(name, len(b), many, e)
			}
		})
	}
}

func TestP6_5Optimality(t *testing.T) {
	r := chance()
	for range 500 {
		b := anyData(r, 13, 1+r.Intn(3))
		best := good[[]byte](t)(press.Best(b))
		plainAll(b, 0, nil, func(l []api.Symbol) {
			if c := good[[]byte](t)(press.Build(l)); len(c) < len(best) {
				t.Fatal(b, c, best)
			}
		})
	}
	// Longer data against lists of tokens by chance.
	for range 2000 {
		l := anyTokens(r, 1+r.Intn(api.MaxUnit))
		c := good[[]byte](t)(press.Build(l))
		b := good[[]byte](t)(press.Expand(c))
		if r.Intn(20) > 0 && len(b) > 200 {
			continue
		}
		greedy, best := good[[]byte](t)(press.Press(b)), good[[]byte](t)(press.Best(b))
		if len(best) > len(c) || len(best) > len(greedy) {
			t.Fatal(l, len(best), len(c), len(greedy))
		}
	}
}

func TestP6_6Tokens(t *testing.T) {
	r := chance()
	for range 3000 {
		l := anyTokens(r, 1+r.Intn(api.MaxUnit))
		c := good[[]byte](t)(press.Build(l))
		if got := good[[]api.Symbol](t)(press.Tokens(c)); !slices.Equal(got, l) {
			t.Fatal(l, got)
		}
		if again := good[[]byte](t)(press.Build(good[[]api.Symbol](t)(press.Tokens(c)))); !bytes.Equal(again, c) {
			t.Fatal(c, again)
		}
	}
	// Whatever bytes are compressed data are those that their tokens give.
	found := 0
	for range 200000 {
		c := make([]byte, r.Intn(7))
		r.Read(c)
		if len(c) > 0 {
			c[0] &= byte(r.Intn(16))
		}
		l, e := press.Tokens(c)
		if e != api.OK {
			continue
		}
		found++
		if again := good[[]byte](t)(press.Build(l)); !bytes.Equal(again, c) {
			t.Fatal(c, l, again)
		}
	}
	if found < 20000 {
		t.Error(found)
	}
}

func TestP6_7Prefixes(t *testing.T) {
	r := chance()
	for range 150 {
		l := anyTokens(r, 1+r.Intn(api.MaxUnit))
		b := good[[]byte](t)(press.Expand(good[[]byte](t)(press.Build(l))))
		for k := range len(l) + 1 {
			first := good[[]byte](t)(press.Build(l[:k]))
			if got := good[[]byte](t)(press.Expand(first)); !bytes.HasPrefix(b, got) || len(got) < k {
				t.Fatal(l, k, got)
			}
		}
	}
}

func TestP6_8ExpansionBound(t *testing.T) {
	for name, way := range ways() {
		eachData(func(b []byte) {
			if c := good[[]byte](t)(way(b)); len(c) > len(b)+(len(b)+7)/8 {
				t.Error(name, len(b), len(c))
			}
		})
		// What does not repeat takes all of it.
		for many := range 257 {
			b := make([]byte, many)
			for i := range b {
				b[i] = byte(i)
			}
			if c := good[[]byte](t)(way(b)); len(c) != many+(many+7)/8 {
				t.Error(name, many, len(c))
			}
		}
	}
}

func TestP6_9Greedy(t *testing.T) {
	eachData(func(b []byte) {
		p := 0
		for _, s := range good[[]api.Symbol](t)(press.Tokens(good[[]byte](t)(press.Press(b)))) {
			back, many, e := press.Longest(b, p)
			if e != api.OK || s.Copy != (many >= 3) || s.Copy && (s.Back != back || s.Many != many) {
				t.Fatal(len(b), p, s, back, many, e)
			}
			p += max(s.Many, 1)
		}
		if p != len(b) {
			t.Error(len(b), p)
		}
	})
}

func TestP6_10Growth(t *testing.T) {
	r := chance()
	for range 150 {
		b := anyData(r, 150, 1+r.Intn(4))
		sizes := make([]int, len(b)+1)
		for n := range sizes {
			sizes[n] = len(good[[]byte](t)(press.Best(b[:n])))
			if slices.Max(sizes[:n+1]) > sizes[n]+1 {
				t.Fatal(b, n, sizes)
			}
		}
	}
	for name, b := range units() {
		whole := len(good[[]byte](t)(press.Best(b)))
		for range 4 {
			n := r.Intn(len(b) + 1)
			if many := len(good[[]byte](t)(press.Best(b[:n]))); many > whole+1 {
				t.Error(name, n, many, whole)
			}
		}
	}
}
