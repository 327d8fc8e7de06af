package press_test

import (
	"bytes"
	"slices"
	"strings"
	"testing"

	"archivolt/api"
	"archivolt/press"
)

// sameTokens wants compressed data to be that of some tokens.
func sameTokens(t *testing.T, b, c []byte, want []api.Symbol) {
	t.Helper()
	if !bytes.Equal(c, plainBuild(want)) {
		got, e := plainTokens(c)
		t.Errorf("%q: %v, %v, not %v", b, got, e, want)
	}
}

// both are data for which there is but one choice.
func both() map[string]string {
	return map[string]string{
		"":                         "",
		"a":                        "\x00a",
		"ab":                       "\x00ab",
		"aaa":                      "\x00aaa",
		"aaaa":                     "\x02a\x00\x00",
		"aaaaaa":                   "\x02a\x02\x00",
		"abcab":                    "\x00abcab",
		"abcabcab":                 "\x08abc\x02\x20",
		"abcdefgh":                 "\x00abcdefgh",
		"abcdefghi":                "\x00abcdefgh\x00i",
		"abcdefghabc":              "\x00abcdefgh\x01\x00\x70",
		"abcdefgabc":               "\x80abcdefg\x00\x60",
		"abcdefgabcx":              "\x80abcdefg\x00\x60\x00x",
		"\x00\x01\xff":             "\x00\x00\x01\xff",
		"abcdefghijklmnopqrstaaaa": "\x00abcdefgh\x00ijklmnop\x20qrsta\x00\x00",
		// At 17 an offset has one bit more.
		"abcdefghijklmnopabc":   "\x00abcdefgh\x00ijklmnop\x01\x00\xf0",
		"abcdefghijklmnopqabcd": "\x00abcdefgh\x00ijklmnop\x02q\x01\x80",
	}
}

func TestP6_2Press(t *testing.T) {
	for b, c := range both() {
		if got, e := press.Press([]byte(b)); string(got) != c || e != api.OK {
			t.Errorf("%q: %q, %v", b, got, e)
		}
	}
	// The copy of 3 bytes is taken, although there is one of 5 at the next byte.
	b := []byte("abcxbcdefyabcdef")
	sameTokens(t, b, good[[]byte](t)(press.Press(b)), append(literals("abcxbcdefy"), copied(10, 3), copied(7, 3)))
	// A match of 2 bytes is no copy; the literals of it are two.
	b = []byte("abcxabyab")
	sameTokens(t, b, good[[]byte](t)(press.Press(b)), literals("abcxabyab"))
}

func TestP6_2PressAnyData(t *testing.T) {
	r := chance()
	for range 2000 {
		b := anyData(r, 150, 1+r.Intn(8))
		sameTokens(t, b, good[[]byte](t)(press.Press(b)), plainPress(b))
	}
	for _, b := range units() {
		b = b[:r.Intn(600)]
		sameTokens(t, b, good[[]byte](t)(press.Press(b)), plainPress(b))
	}
}

func TestP6_2PressUnits(t *testing.T) {
	for _, b := range units() {
		sameTokens(t, b, good[[]byte](t)(press.Press(b)), plainPress(b))
	}
}

func TestP6_2Best(t *testing.T) {
	for b, c := range both() {
		if got, e := press.Best([]byte(b)); string(got) != c || e != api.OK {
			t.Errorf("%q: %q, %v", b, got, e)
		}
	}
	for _, c := range []struct {
		b    string
		want []api.Symbol
	}{
		// A literal ahead of a greater match costs less than two copies.
		{"abcxbcdefyabcdef", append(literals("abcxbcdefya"), copied(7, 5))},
		// A copy ahead of a literal, where the other way round costs as much.
		{"abcxbcdyabcd", append(literals("abcxbcdy"), copied(8, 3), literal('d'))},
		// Of two copies the greater one first, where a shorter one would do as well.
		{"abcdexdefghyabcdefgh", append(literals("abcdexdefghy"), copied(12, 5), copied(9, 3))},
		// The lesser offset of two, also where the greater one has more bytes than are taken.
		{"abcdxabcyabcdz", append(literals("abcdxabcyabcdz")[:5], copied(5, 3), literal('y'), copied(9, 4), literal('z'))},
		{"abcxabcyabc", append(literals("abcx"), copied(4, 3), literal('y'), copied(4, 3))},
		{"aaaaaaaa", []api.Symbol{literal('a'), copied(1, 7)}},
	} {
		b := []byte(c.b)
		sameTokens(t, b, good[[]byte](t)(press.Best(b)), c.want)
	}
}

// A copy that is cut, because the next one goes on from there, has the least offset for what is left of it.
func TestP6_2BestLeastOffset(t *testing.T) {
	found := false
	r := chance()
	for range 3000 {
		b := anyData(r, 60, 1+r.Intn(4))
		p := 0
		for _, s := range good[[]api.Symbol](t)(press.Tokens(good[[]byte](t)(press.Best(b)))) {
			if s.Copy {
				_, many := plainLongest(b, p)
				found = found || many > s.Many
				for k := 1; k < s.Back; k++ {
					if plainMatch(b, p, k) >= s.Many {
						t.Fatal(b, p, s, k)
					}
				}
			}
			p += max(s.Many, 1)
		}
	}
	if !found {
		t.Error("no copy was cut")
	}
}

// All that is short, over few kinds of bytes, against all lists of tokens that there are.
func TestP6_2BestOfAll(t *testing.T) {
	for many := range 10 {
		for n := range 1 << many {
			b := make([]byte, many)
			for i := range b {
				b[i] = byte(n >> i & 1)
			}
			sameTokens(t, b, good[[]byte](t)(press.Best(b)), plainBest(b))
		}
	}
	r := chance()
	for range 800 {
		b := anyData(r, 13, 1+r.Intn(5))
		sameTokens(t, b, good[[]byte](t)(press.Best(b)), plainBest(b))
	}
}

func TestP6_2BestAnyData(t *testing.T) {
	r := chance()
	for range 500 {
		b := anyData(r, 90, 1+r.Intn(6))
		sameTokens(t, b, good[[]byte](t)(press.Best(b)), plainBestOfLong(b))
	}
	b := anyUnit(r)[:600]
	sameTokens(t, b, good[[]byte](t)(press.Best(b)), plainBestOfLong(b))
}

func TestP6_2Units(t *testing.T) {
	zeros := make([]byte, api.MaxUnit)
	want := []api.Symbol{literal(0), copied(1, api.MaxUnit-1)}
	sameTokens(t, zeros, good[[]byte](t)(press.Press(zeros)), want)
	sameTokens(t, zeros, good[[]byte](t)(press.Best(zeros)), want)
	words := []byte(strings.Repeat("abcdefg", 535)[:api.MaxUnit])
	want = append(literals("abcdefg"), copied(7, api.MaxUnit-7))
	sameTokens(t, words, good[[]byte](t)(press.Press(words)), want)
	sameTokens(t, words, good[[]byte](t)(press.Best(words)), want)
	for name, b := range units() {
		greedy, best := good[[]byte](t)(press.Press(b)), good[[]byte](t)(press.Best(b))
		if len(best) > len(greedy) {
			t.Error(name, len(best), len(greedy))
		}
	}
}

func TestP6_2Limit(t *testing.T) {
	for _, many := range []int{api.MaxUnit + 1, api.MaxUnit + 2, 99999} {
		for _, b := range [][]byte{make([]byte, many), bytes.Repeat([]byte("abc"), many)[:many]} {
			if c, e := press.Press(b); len(c) != 0 || e != api.ErrLimit {
				t.Error(many, len(c), e)
			}
			if c, e := press.Best(b); len(c) != 0 || e != api.ErrLimit {
				t.Error(many, len(c), e)
			}
		}
	}
}

func TestPressNil(t *testing.T) {
	for _, b := range [][]byte{nil, {}} {
		greedy, e := press.Press(b)
		best, f := press.Best(b)
		if len(greedy) != 0 || len(best) != 0 || e != api.OK || f != api.OK {
			t.Error(greedy, best, e, f)
		}
	}
}

// The same data gives the same result, call by call.
func TestR7Press(t *testing.T) {
	b := anyUnit(chance())
	first, second := good[[]byte](t)(press.Press(b)), good[[]byte](t)(press.Best(b))
	for range 3 {
		if !slices.Equal(first, good[[]byte](t)(press.Press(b))) || !slices.Equal(second, good[[]byte](t)(press.Best(b))) {
			t.Error("another result")
		}
	}
}
