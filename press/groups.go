package press

import (
	"iter"

	"archivolt/api"
)

// placed yields the tokens of a list with their positions.
func placed(l []api.Symbol) iter.Seq2[int, api.Symbol] {
	return func(yield func(int, api.Symbol) bool) {
		p := 0
		for _, s := range l {
			needToken(p, s, api.ErrArg)
			if !yield(p, s) {
				return
			}
			p += sizeOf(s)
		}
	}
}

// packed returns the groups of tokens at positions.
func packed(tokens iter.Seq2[int, api.Symbol]) []byte {
	var c []byte
	flags, many := 0, 0 // where the flags of the last group are, and how many tokens there are
	put := func(flag byte, code ...byte) {
		i := many % perGroup
		if i == 0 {
			flags = len(c)
			c = append(c, 0)
		}
		c[flags] |= flag << i
		c = append(c, code...)
		many++
	}
	for p, s := range tokens {
		if s.Copy {
			n := numberOf(p, s)
			put(1, byte(n), byte(n>>8))
		} else {
			put(0, s.Byte)
		}
	}
	return c
}

// numberOf returns the number of a copy at a position.
func numberOf(p int, s api.Symbol) int {
	return (s.Back-1)<<(numberBits-widthAt(p)) + s.Many - leastCopied
}

// copyOf returns the copy of a number at a position.
func copyOf(p, n int) api.Symbol {
	shift := numberBits - widthAt(p)
	return api.Symbol{Copy: true, Back: n>>shift + 1, Many: n&(1<<shift-1) + leastCopied}
}

// unpacked yields the tokens of compressed data with their positions.
func unpacked(c []byte) iter.Seq2[int, api.Symbol] {
	return func(yield func(int, api.Symbol) bool) {
		p, rest := 0, c
		for len(rest) > 0 {
			flags := rest[0]
			rest = rest[1:]
			need(len(rest) > 0, api.ErrForm)
			for i := range perGroup {
				if len(rest) == 0 {
					need(flags>>i == 0, api.ErrForm)
					return
				}
				s, many := tokenOf(p, flags>>i&1 == 1, rest)
				if !yield(p, s) {
					return
				}
				p += sizeOf(s)
				rest = rest[many:]
			}
		}
	}
}

// tokenOf returns the token at the beginning of some bytes, of which there are one or more, and how many it takes.
func tokenOf(p int, copies bool, code []byte) (s api.Symbol, many int) {
	s, many = api.Symbol{Byte: code[0]}, 1
	if copies {
		need(len(code) >= 2, api.ErrForm)
		s, many = copyOf(p, int(code[0])|int(code[1])<<8), 2
	}
	needToken(p, s, api.ErrForm)
	return s, many
}
