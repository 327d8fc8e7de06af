package press_test

import (
	"bytes"
	"cmp"
	"math/rand"
	"slices"
	"strings"
	"testing"

	"archivolt/api"
)

// chance returns a source of numbers that are the same in each run.
func chance() *rand.Rand { return rand.New(rand.NewSource(1)) }

// good returns a function that returns what a call does, and wants no error.
func good[T any](t *testing.T) func(T, api.Errno) T {
	return func(x T, e api.Errno) T {
		t.Helper()
		if e != api.OK {
			t.Fatal(e)
		}
		return x
	}
}

func literal(x byte) api.Symbol { return api.Symbol{Byte: x} }

func copied(back, many int) api.Symbol { return api.Symbol{Copy: true, Back: back, Many: many} }

// literals returns the tokens of data without copies.
func literals(b string) []api.Symbol {
	var l []api.Symbol
	for i := range len(b) {
		l = append(l, literal(b[i]))
	}
	return l
}

func plainWidth(p int) (width, reach int) {
	width, reach = 4, 4096
	for n := 16; n < p; n *= 2 {
		width, reach = width+1, reach/2
	}
	return width, reach + 2
}

func plainMatch(b []byte, p, k int) int {
	_, reach := plainWidth(p)
	for many := 0; ; many++ {
		if many == reach || p+many == len(b) || b[p+many] != b[p-k+many] {
			return many
		}
	}
}

func plainLongest(b []byte, p int) (back, many int) {
	for k := p; k >= 1; k-- {
		if n := plainMatch(b, p, k); n > 0 && n >= many {
			back, many = k, n
		}
	}
	return back, many
}

// plainIs reports whether a token is as described and valid at a position.
func plainIs(p int, s api.Symbol) bool {
	if !s.Copy {
		return s == literal(s.Byte)
	}
	_, reach := plainWidth(p)
	return s == copied(s.Back, s.Many) && 1 <= s.Back && s.Back <= p && 3 <= s.Many && s.Many <= reach
}

// plainData returns the bytes that valid tokens stand for.
func plainData(l []api.Symbol) []byte {
	var b []byte
	for _, s := range l {
		if !s.Copy {
			b = append(b, s.Byte)
			continue
		}
		from := b[len(b)-s.Back:]
		b = append(b, bytes.Repeat(from, s.Many/s.Back+1)[:s.Many]...)
	}
	return b
}

// plainBuild returns the groups of valid tokens.
func plainBuild(l []api.Symbol) []byte {
	var c []byte
	p := 0
	for group := range slices.Chunk(l, 8) {
		flags, code := 0, []byte{}
		for i, s := range group {
			if !s.Copy {
				code = append(code, s.Byte)
				p++
				continue
			}
			flags |= 1 << i
			_, reach := plainWidth(p)
			n := (s.Back-1)*(reach-2) + s.Many - 3
			code = append(code, byte(n%256), byte(n/256))
			p += s.Many
		}
		c = append(append(c, byte(flags)), code...)
	}
	return c
}

// plainWrong returns the error of the first token that is wrong.
func plainWrong(l []api.Symbol) api.Errno {
	p := 0
	for _, s := range l {
		if !plainIs(p, s) {
			return api.ErrArg
		}
		p += max(s.Many, 1)
		if p > api.MaxUnit {
			return api.ErrLimit
		}
	}
	return api.OK
}

// plainTokens returns the tokens of compressed data, or why it is none.
func plainTokens(c []byte) ([]api.Symbol, api.Errno) {
	var l []api.Symbol
	p, at := 0, 0
	for at < len(c) {
		flags := c[at]
		at++
		first := at
		for i := 0; i < 8; i++ {
			isCopy := flags&(1<<i) != 0
			if at == len(c) {
				if at == first || flags >= 1<<i {
					return nil, api.ErrForm
				}
				break
			}
			s := literal(c[at])
			if isCopy {
				if at+1 == len(c) {
					return nil, api.ErrForm
				}
				_, reach := plainWidth(p)
				n := int(c[at]) + 256*int(c[at+1])
				s = copied(n/(reach-2)+1, n%(reach-2)+3)
				at++
			}
			at++
			if !plainIs(p, s) {
				return nil, api.ErrForm
			}
			p += max(s.Many, 1)
			if p > api.MaxUnit {
				return nil, api.ErrLimit
			}
			l = append(l, s)
		}
	}
	return l, api.OK
}

// plainPress returns the greedy list of tokens.
func plainPress(b []byte) []api.Symbol {
	var l []api.Symbol
	for p := 0; p < len(b); {
		back, many := plainLongest(b, p)
		if many < 3 {
			l = append(l, literal(b[p]))
			p++
			continue
		}
		l = append(l, copied(back, many))
		p += many
	}
	return l
}

// plainFirsts returns all tokens that may stand at a position of data.
func plainFirsts(b []byte, p int) []api.Symbol {
	l := []api.Symbol{literal(b[p])}
	for k := 1; k <= p; k++ {
		for many := 3; many <= plainMatch(b, p, k); many++ {
			l = append(l, copied(k, many))
		}
	}
	return l
}

// plainAll yields all valid lists of tokens that have some data, from a position on.
func plainAll(b []byte, p int, before []api.Symbol, yield func([]api.Symbol)) {
	if p == len(b) {
		yield(before)
		return
	}
	for _, s := range plainFirsts(b, p) {
		plainAll(b, p+max(s.Many, 1), append(slices.Clone(before), s), yield)
	}
}

func plainCost(l []api.Symbol) int {
	cost := 0
	for _, s := range l {
		if s.Copy {
			cost += 17
		} else {
			cost += 9
		}
	}
	return cost
}

// plainOrder returns whether Best would take the first of two lists with the same data, or the second.
func plainOrder(a, b []api.Symbol) int {
	if c := cmp.Compare(plainCost(a), plainCost(b)); c != 0 {
		return c
	}
	return slices.CompareFunc(a, b, func(x, y api.Symbol) int {
		if x.Copy != y.Copy {
			return cmp.Compare(y.Many, x.Many) // of a literal it is 0
		}
		return cmp.Or(cmp.Compare(y.Many, x.Many), cmp.Compare(x.Back, y.Back))
	})
}

// plainBest returns the list of tokens that Best takes, of all that there are.
func plainBest(b []byte) []api.Symbol {
	var best []api.Symbol
	plainAll(b, 0, nil, func(l []api.Symbol) {
		if best == nil || plainOrder(l, best) < 0 {
			best = l
		}
	})
	return best
}

// plainBestOfLong returns the same as plainBest, by what is best for each rest of the data.
func plainBestOfLong(b []byte) []api.Symbol {
	best := make([][]api.Symbol, len(b)+1)
	for p := len(b) - 1; p >= 0; p-- {
		for _, s := range plainFirsts(b, p) {
			l := append([]api.Symbol{s}, best[p+max(s.Many, 1)]...)
			if best[p] == nil || plainOrder(l, best[p]) < 0 {
				best[p] = l
			}
		}
	}
	return best[0]
}

// anyData returns up to most bytes of some kinds, parts of which are there again.
func anyData(r *rand.Rand, most, kinds int) []byte {
	b := make([]byte, 0, most)
	for many := r.Intn(most + 1); len(b) < many; {
		if len(b) > 0 && r.Intn(3) == 0 {
			back := 1 + r.Intn(len(b))
			for range 1 + r.Intn(min(many-len(b), 40)) {
				b = append(b, b[len(b)-back])
			}
			continue
		}
		b = append(b, byte(r.Intn(kinds)))
	}
	return b
}

// anyTokens returns valid tokens whose data has at most some bytes.
func anyTokens(r *rand.Rand, most int) []api.Symbol {
	var l []api.Symbol
	for p := 0; p < most && r.Intn(50) > 0; {
		_, reach := plainWidth(p)
		s := literal(byte(r.Intn(256)))
		if end := min(reach, most-p); p > 0 && end >= 3 && r.Intn(2) == 0 {
			s = copied(1+r.Intn(p), 3+r.Intn(end-2))
			if r.Intn(2) == 0 {
				s.Many = min(s.Many, 3+r.Intn(5))
			}
		}
		l = append(l, s)
		p += max(s.Many, 1)
	}
	return l
}

// units are whole units of each kind: all the same, repeating, without repetition, mixed.
func units() map[string][]byte {
	r := chance()
	fill := func(next func(i int) byte) []byte {
		b := make([]byte, api.MaxUnit)
		for i := range b {
			b[i] = next(i)
		}
		return b
	}
	return map[string][]byte{
		"zeros":   make([]byte, api.MaxUnit),
		"words":   []byte(strings.Repeat("abcdefg", 535)[:api.MaxUnit]),
		"rising":  fill(func(i int) byte { return byte(i) }),
		"squares": fill(func(i int) byte { return byte(i * i >> 3) }),
		"blocks":  fill(func(i int) byte { return byte(i / 100 * 7) }),
		"chance":  fill(func(i int) byte { return byte(r.Intn(256)) }),
		"few":     fill(func(i int) byte { return byte(r.Intn(2)) }),
		"rare":    fill(func(i int) byte { return byte(r.Intn(60) / 59) }),
		"mixed":   anyUnit(r),
	}
}

func anyUnit(r *rand.Rand) []byte {
	var b []byte
	for len(b) < api.MaxUnit {
		b = append(b, anyData(r, 500, 1+r.Intn(20))...)
	}
	return b[:api.MaxUnit]
}
