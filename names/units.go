package names

import (
	"iter"

	"archivolt/api"
)

const (
	highFirst = 0xd800 // the first high surrogate
	lowFirst  = 0xdc00 // the first low one
	lowEnd    = 0xe000
	lows      = lowEnd - lowFirst

	pairFirst = 1 << 16  // code points from here on have two units
	pointEnd  = 0x110000 // there are no others

	tail     = 128 // a byte behind the first one is tail + tailBits bits of the code point
	tailBits = 6
	tailMask = 1<<tailBits - 1
)

// shape is how code points are written that are below one, and not below that of the shape ahead.
type shape struct {
	end  int
	head int // what is added to the bits of the code point in the first byte
}

// shapes are those of one byte, two, three and four.
var shapes = [4]shape{{1 << 7, 0}, {1 << 11, 192}, {1 << 16, 224}, {pointEnd, 240}}

func isHigh(c int) bool { return c >= highFirst && c < lowFirst }

func isLow(c int) bool { return c >= lowFirst && c < lowEnd }

// appendPoint appends the bytes of a code point.
func appendPoint(b []byte, c int) []byte {
	tails := 0
	for c >= shapes[tails].end {
		tails++
	}
	b = append(b, byte(shapes[tails].head+c>>(tailBits*tails)))
	for i := tails - 1; i >= 0; i-- {
		b = append(b, byte(tail+c>>(tailBits*i)&tailMask))
	}
	return b
}

// firstPoint returns the code point whose bytes a string, which is not empty, begins with, and how many they are.
func firstPoint(s string) (c, many int) {
	head, tails := int(s[0]), len(shapes)-1
	for head < shapes[tails].head {
		tails--
	}
	need(tails < len(s), api.ErrForm)
	c = head - shapes[tails].head
	for i := range tails {
		x := int(s[1+i])
		need(x&^tailMask == tail, api.ErrForm)
		c = c<<tailBits | x&tailMask
	}
	// What fits into fewer bytes is not written in more.
	need(c < shapes[tails].end && (tails == 0 || c >= shapes[tails-1].end), api.ErrForm)
	return c, 1 + tails
}

// points yields the code points whose bytes a string is.
func points(s string) iter.Seq[int] {
	return func(yield func(int) bool) {
		for len(s) > 0 {
			c, many := firstPoint(s)
			if !yield(c) {
				return
			}
			s = s[many:]
		}
	}
}

// unitsOf yields the units of a string, which may have any number of them.
func unitsOf(s string) iter.Seq[uint16] {
	return func(yield func(uint16) bool) {
		last := 0
		for c := range points(s) {
			// As units, these two would be those of one greater code point.
			need(!isHigh(last) || !isLow(c), api.ErrForm)
			last = c
			if c < pairFirst {
				if !yield(uint16(c)) {
					return
				}
				continue
			}
			c -= pairFirst
			if !yield(uint16(highFirst+c/lows)) || !yield(uint16(lowFirst+c%lows)) {
				return
			}
		}
	}
}

// decoded returns the units of a string that is well-formed.
func decoded(s string) []uint16 {
	l := make([]uint16, 0, min(len(s), api.MaxUnits))
	for u := range unitsOf(s) {
		need(len(l) < api.MaxUnits, api.ErrForm)
		l = append(l, u)
	}
	return l
}

// pointsOf yields the code points that units are those of.
func pointsOf(l []uint16) iter.Seq[int] {
	return func(yield func(int) bool) {
		for i := 0; i < len(l); i++ {
			c := int(l[i])
			if isHigh(c) && i+1 < len(l) && isLow(int(l[i+1])) {
				i++
				c = pairFirst + (c-highFirst)*lows + int(l[i]) - lowFirst
			}
			if !yield(c) {
				return
			}
		}
	}
}

// encoded returns the string with some units.
func encoded(l []uint16) string {
	b := make([]byte, 0, len(l))
	for c := range pointsOf(l) {
		b = appendPoint(b, c)
	}
	return string(b)
}

// Units returns the units of a string.
func Units(s string) ([]uint16, api.Errno) {
	return call(func() []uint16 { return decoded(s) })
}

// String returns the well-formed string with some units.
func String(l []uint16) (string, api.Errno) {
	return call(func() string {
		need(len(l) <= api.MaxUnits, api.ErrLimit)
		return encoded(l)
	})
}
