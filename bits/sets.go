package bits

import "archivolt/api"

// And returns the bits that are set in both bitmaps.
func And(a, b api.Bits) (api.Bits, api.Errno) {
	return joined(a, b, func(x, y byte) byte { return x & y })
}

// Or returns the bits that are set in one bitmap, or in both.
func Or(a, b api.Bits) (api.Bits, api.Errno) {
	return joined(a, b, func(x, y byte) byte { return x | y })
}

// Minus returns the bits that are set in a and not in b.
func Minus(a, b api.Bits) (api.Bits, api.Errno) {
	return joined(a, b, func(x, y byte) byte { return x &^ y })
}

// Not returns the bits that are clear.
func Not(b api.Bits) (api.Bits, api.Errno) {
	return call(func() api.Bits {
		needValid(b)
		// All bits without those of b: the spare ones of the last byte stay clear.
		all := empty(b.N)
		fill(all, 0, b.N, true)
		return api.Bits{N: b.N, B: join(all.B, b.B, func(x, y byte) byte { return x &^ y })}
	})
}

func joined(a, b api.Bits, of func(x, y byte) byte) (api.Bits, api.Errno) {
	return call(func() api.Bits {
		needValid(a)
		needValid(b)
		need(a.N == b.N, api.ErrArg)
		return api.Bits{N: a.N, B: join(a.B, b.B, of)}
	})
}

// join returns what of returns for each two items at the same place.
func join[T any](a, b []T, of func(x, y T) T) []T {
	l := make([]T, len(a))
	for i := range l {
		l[i] = of(a[i], b[i])
	}
	return l
}
