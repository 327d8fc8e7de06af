// Package wire is layer 1: numbers, texts and records of fields as bytes. See shared/doc/01-wire.md.
package wire

import (
	"bytes"
	"iter"
	"math"
	"math/bits"

	"archivolt/api"
)

const (
	maxFixed = 8   // bytes of a fixed number
	maxVar   = 9   // bytes of a variable number: 63 bits, so that each one is an int
	groupEnd = 128 // a byte of a variable number from here on is followed by another one
)

// Uint writes a number without sign.
func Uint(n, width int) ([]byte, api.Errno) { return fixed(n, width, false) }

// Int writes a number with a sign.
func Int(n, width int) ([]byte, api.Errno) { return fixed(n, width, true) }

func fixed(n, width int, signed bool) ([]byte, api.Errno) {
	if width < 1 || width > maxFixed {
		return nil, api.ErrArg
	}
	if least := Width(n, signed); least == 0 || least > width {
		return nil, api.ErrRange
	}
	b := make([]byte, width)
	for i := range b {
		b[i] = byte(n >> (8 * i))
	}
	return b, api.OK
}

// ToUint reads a number without sign.
func ToUint(b []byte) (int, api.Errno) {
	if len(b) < 1 || len(b) > maxFixed {
		return 0, api.ErrArg
	}
	word := lowFirst(b)
	if word > math.MaxInt {
		return 0, api.ErrRange
	}
	return int(word), api.OK
}

// ToInt reads a number with a sign.
func ToInt(b []byte) (int, api.Errno) {
	if len(b) < 1 || len(b) > maxFixed {
		return 0, api.ErrArg
	}
	above := 64 - 8*len(b)
	return int(lowFirst(b)<<above) >> above, api.OK
}

func lowFirst(b []byte) uint64 {
	var word uint64
	for i, x := range b {
		word |= uint64(x) << (8 * i)
	}
	return word
}

// Width returns the least width of a number, 0 if there is none.
func Width(n int, signed bool) int {
	need := bits.Len64(uint64(n))
	switch {
	case signed:
		// A negative number needs as many bits as its complement: both need one more for the sign.
		need = bits.Len64(uint64(max(n, ^n))) + 1
	case n < 0:
		return 0
	}
	return max(1, (need+7)/8)
}

// Var writes a variable number.
func Var(n int) ([]byte, api.Errno) {
	if n < 0 {
		return nil, api.ErrRange
	}
	var b []byte
	for x := range groups(n) {
		b = append(b, x)
	}
	return b, api.OK
}

// groups yields the bytes of the variable number n.
func groups(n int) iter.Seq[byte] {
	return func(yield func(byte) bool) {
		rest := n
		for ; rest >= groupEnd; rest /= groupEnd {
			if !yield(byte(groupEnd + rest%groupEnd)) {
				return
			}
		}
		yield(byte(rest))
	}
}

// ToVar reads a variable number.
func ToVar(b []byte) (n, used int, e api.Errno) {
	for i, x := range b[:min(len(b), maxVar)] {
		if x == 0 && i > 0 {
			return 0, 0, api.ErrForm
		}
		n |= int(x%groupEnd) << (7 * i)
		if x < groupEnd {
			return n, i + 1, api.OK
		}
	}
	return 0, 0, api.ErrForm
}

// Fold makes a number from 0 on of one with a sign.
func Fold(n int) (int, api.Errno) {
	if n > math.MaxInt/2 || n < math.MinInt/2 {
		return 0, api.ErrRange
	}
	if n < 0 {
		return -2*n - 1, api.OK
	}
	return 2 * n, api.OK
}

// Unfold returns what was folded.
func Unfold(n int) (int, api.Errno) {
	if n < 0 {
		return 0, api.ErrRange
	}
	if n%2 == 1 {
		return -(n / 2) - 1, api.OK
	}
	return n / 2, api.OK
}

// Text writes a text.
func Text(b []byte) ([]byte, api.Errno) {
	if len(b) > api.MaxText {
		return nil, api.ErrLimit
	}
	head, e := Var(len(b))
	return append(head, b...), e
}

// ToText reads a text.
func ToText(b []byte) (text []byte, used int, e api.Errno) {
	many, head, e := ToVar(b)
	switch {
	case e != api.OK:
		return nil, 0, e
	case many > api.MaxText:
		return nil, 0, api.ErrLimit
	case many > len(b)-head:
		return nil, 0, api.ErrForm
	}
	used = head + many
	return bytes.Clone(b[head:used]), used, api.OK
}
