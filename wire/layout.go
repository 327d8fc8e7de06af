package wire

import (
	"slices"

	"archivolt/api"
)

// kind is what all fields of a kind have in common. Its functions are called for valid widths only.
type kind struct {
	narrow, wide int  // the widths that are valid
	hasBytes     bool // its items are bytes, not numbers
	size         func(width int) (least, most int)
	write        func(x api.Datum, width int) ([]byte, api.Errno)
	read         func(r *Reader, width int) api.Datum // panics with the error if it cannot
}

// kinds returns all kinds; there is none with the number 0.
func kinds() [api.FdText + 1]kind {
	return [api.FdText + 1]kind{
		api.FdUint: {
			narrow: 1, wide: maxFixed, size: sameSize,
			write: func(x api.Datum, width int) ([]byte, api.Errno) { return Uint(x.N, width) },
			read:  func(r *Reader, width int) api.Datum { return api.Datum{N: must(r.Uint(width))} },
		},
		api.FdInt: {
			narrow: 1, wide: maxFixed, size: sameSize,
			write: func(x api.Datum, width int) ([]byte, api.Errno) { return Int(x.N, width) },
			read:  func(r *Reader, width int) api.Datum { return api.Datum{N: must(r.Int(width))} },
		},
		api.FdVar: {
			size:  func(int) (least, most int) { return 1, maxVar },
			write: func(x api.Datum, _ int) ([]byte, api.Errno) { return Var(x.N) },
			read:  func(r *Reader, _ int) api.Datum { return api.Datum{N: must(r.Var())} },
		},
		api.FdBytes: {
			wide: api.MaxWidth, hasBytes: true, size: sameSize,
			write: writeBytes,
			read:  func(r *Reader, width int) api.Datum { return api.Datum{B: must(r.Bytes(width))} },
		},
		api.FdText: {
			wide: api.MaxWidth, hasBytes: true, size: textSize,
			write: writeText,
			read:  readText,
		},
	}
}

func sameSize(width int) (least, most int) { return width, width }

func textSize(width int) (least, most int) {
	head, _ := Var(width)
	return 1, len(head) + width
}

func writeBytes(x api.Datum, width int) ([]byte, api.Errno) {
	if len(x.B) != width {
		return nil, api.ErrRange
	}
	return x.B, api.OK
}

func writeText(x api.Datum, width int) ([]byte, api.Errno) {
	if len(x.B) > width {
		return nil, api.ErrRange
	}
	return Text(x.B)
}

func readText(r *Reader, width int) api.Datum {
	many := must(r.Var())
	if many > width {
		panic(api.ErrRange)
	}
	return api.Datum{B: must(r.Bytes(many))}
}

// must returns what was read, and ends the reading of all fields if there was an error.
func must[T any](what T, e api.Errno) T {
	if e != api.OK {
		panic(e)
	}
	return what
}

// reason returns the error that ended the reading of fields.
func reason(ended any) api.Errno {
	if e, ok := ended.(api.Errno); ok {
		return e
	}
	return api.ErrForm
}

// Check returns the error of a layout.
func Check(l []api.Field) api.Errno {
	if len(l) > api.MaxFields {
		return api.ErrArg
	}
	table := kinds()
	for i, f := range l {
		if f.Kind < api.FdUint || f.Kind > api.FdText {
			return api.ErrArg
		}
		if k := table[f.Kind]; f.Width < k.narrow || f.Width > k.wide {
			return api.ErrArg
		}
		taken := func(other api.Field) bool { return other.Name == f.Name }
		if f.Name == "" || slices.ContainsFunc(l[:i], taken) {
			return api.ErrArg
		}
	}
	return api.OK
}

// Size returns the least and the greatest number of bytes of a layout.
func Size(l []api.Field) (least, most int, e api.Errno) {
	if e := Check(l); e != api.OK {
		return 0, 0, e
	}
	table := kinds()
	for _, f := range l {
		few, many := table[f.Kind].size(f.Width)
		least += few
		most += many
	}
	return least, most, api.OK
}

// Pack writes items by a layout.
func Pack(l []api.Field, items []api.Datum) ([]byte, api.Errno) {
	if e := Check(l); e != api.OK {
		return nil, e
	}
	if len(items) != len(l) {
		return nil, api.ErrArg
	}
	table := kinds()
	var b []byte
	for i, f := range l {
		part, e := table[f.Kind].pack(items[i], f.Width)
		if e != api.OK {
			return nil, e
		}
		b = append(b, part...)
	}
	return b, api.OK
}

// pack returns the bytes of an item, which it may share: ErrRange, if the item does not suit the field.
func (k kind) pack(x api.Datum, width int) ([]byte, api.Errno) {
	if k.hasBytes && x.N != 0 || !k.hasBytes && len(x.B) > 0 {
		return nil, api.ErrRange
	}
	return k.write(x, width)
}

// Unpack reads items by a layout.
func Unpack(l []api.Field, b []byte) (items []api.Datum, used int, e api.Errno) {
	items, bounds, e := readAll(l, b)
	if e != api.OK {
		return nil, 0, e
	}
	return items, bounds[len(l)], api.OK
}

// readAll reads the items of all fields; the field i lies from bounds[i] up to bounds[i+1].
func readAll(l []api.Field, b []byte) (items []api.Datum, bounds []int, e api.Errno) {
	if e := Check(l); e != api.OK {
		return nil, nil, e
	}
	defer func() {
		if ended := recover(); ended != nil {
			items, bounds, e = nil, nil, reason(ended)
		}
	}()
	table := kinds()
	// Not NewReader: the Reader does not outlive this call, so it needs no copy of b.
	r := &Reader{data: b}
	bounds = append(bounds, r.At())
	for _, f := range l {
		items = append(items, table[f.Kind].read(r, f.Width))
		bounds = append(bounds, r.At())
	}
	return items, bounds, api.OK
}

// Where returns where a field lies.
func Where(l []api.Field, b []byte, i int) (from, to int, e api.Errno) {
	_, bounds, e := readAll(l, b)
	if e != api.OK {
		return 0, 0, e
	}
	if i < 0 || i >= len(l) {
		return 0, 0, api.ErrArg
	}
	return bounds[i], bounds[i+1], api.OK
}

// Patch replaces a field.
func Patch(l []api.Field, b []byte, i int, x api.Datum) ([]byte, api.Errno) {
	from, to, e := Where(l, b, i)
	if e != api.OK {
		return nil, e
	}
	part, e := kinds()[l[i].Kind].pack(x, l[i].Width)
	if e != api.OK {
		return nil, e
	}
	return slices.Concat(b[:from], part, b[to:]), api.OK
}
