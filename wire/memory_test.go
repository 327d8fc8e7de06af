package wire_test

import (
	"bytes"
	"slices"
	"testing"

	"archivolt/api"
	"archivolt/wire"
)

// spare returns b with more bytes behind its end, up to its capacity, and a function that reports whether all of them are as they were.
func spare(b []byte) ([]byte, func() bool) {
	whole := join(b, []byte{77, 77, 77, 77})
	before := slices.Clone(whole)
	return whole[:len(b)], func() bool { return bytes.Equal(whole, before) }
}

// R6: arguments are not modified, also not behind their ends; results share no memory with them.
func TestR6ArgumentsStay(t *testing.T) {
	b, same := spare([]byte{2, 1, 2, 120, 121, 255, 7})
	text, textSame := spare([]byte("abc"))
	patched, _ := wire.Patch(record(), b, 1, api.Datum{B: text})
	packed, _ := wire.Pack([]api.Field{{Name: "a", Kind: api.FdBytes, Width: 3}}, []api.Datum{{B: text}})
	// With bytes behind the field, which must not be appended to those of the item.
	one, _ := wire.Patch([]api.Field{{Name: "a", Kind: api.FdBytes, Width: 3}}, join(packed, []byte{8, 8}), 0, api.Datum{B: text})
	written, _ := wire.Text(text)
	items, _, _ := wire.Unpack(record(), b)
	read, _, _ := wire.ToText(b[2:])
	r := wire.NewReader(b)
	some, _ := r.Bytes(4)
	for _, result := range [][]byte{patched, packed, one, written, items[1].B, read, some} {
		if len(result) == 0 {
			t.Error("nothing was returned")
		}
		result = append(result, 0)
		for i := range result {
			result[i] ^= 255
		}
	}
	if !same() || !textSame() {
		t.Error("an argument was modified, or shares memory with a result")
	}
}

// R6: slices of one result share no memory.
func TestR6ItemsAreApart(t *testing.T) {
	l := []api.Field{{Name: "a", Kind: api.FdText, Width: 3}, {Name: "b", Kind: api.FdBytes, Width: 2}}
	items, _, _ := wire.Unpack(l, []byte{2, 1, 2, 3, 4})
	_ = append(items[0].B, 99, 99, 99)
	items[0].B[0] = 99
	if !bytes.Equal(items[1].B, []byte{3, 4}) {
		t.Error(items)
	}
}

// R6: a Reader does not keep the bytes that it was made of, nor share any with what it returns.
func TestR6ReadersHaveTheirOwnBytes(t *testing.T) {
	b := []byte{1, 2, 2, 120, 121, 6}
	r := wire.NewReader(b)
	sub, _ := wire.NewReader(b).Sub(2)
	clear(b)
	if some, e := r.Bytes(2); !bytes.Equal(some, []byte{1, 2}) || e != api.OK {
		t.Error(some, e)
	} else {
		_ = append(some, 0, 0, 0)
		clear(some)
	}
	if text, e := r.Text(); string(text) != "xy" || e != api.OK {
		t.Error(text, e)
	} else {
		clear(text)
	}
	r.Seek(0)
	if some, e := r.Bytes(6); !bytes.Equal(some, []byte{1, 2, 2, 120, 121, 6}) || e != api.OK {
		t.Error(some, e)
	}
	if some, e := sub.Bytes(2); !bytes.Equal(some, []byte{1, 2}) || e != api.OK {
		t.Error(some, e)
	}
}

// R6: the same bytes yield new memory in each call.
func TestR6EachCallHasItsOwnResult(t *testing.T) {
	one, _ := wire.Var(300)
	clear(one)
	if two, _ := wire.Var(300); !bytes.Equal(two, []byte{172, 2}) {
		t.Error(two)
	}
	x, _ := wire.Uint(258, 2)
	clear(x)
	if y, _ := wire.Uint(258, 2); !bytes.Equal(y, []byte{2, 1}) {
		t.Error(y)
	}
}
