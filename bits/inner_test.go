package bits

import (
	"errors"
	"testing"

	"archivolt/api"
)

// No call may panic: even what nothing here panics with becomes an error, with no result.
func TestCall(t *testing.T) {
	for _, c := range []struct {
		ended any
		e     api.Errno
	}{{api.ErrArg, api.ErrArg}, {api.ErrNone, api.ErrNone}, {"another one", api.ErrBad}, {errors.New("another one"), api.ErrBad}} {
		n, e := call(func() int {
			if c.ended != nil {
				panic(c.ended)
			}
			return 5
		})
		if n != 0 || e != c.e {
			t.Error(c, n, e)
		}
	}
	if n, e := call(func() int { return 5 }); n != 5 || e != api.OK {
		t.Error(n, e)
	}
}

// Runs and parts of ranges may be ranged over in part, and again.
func TestRanging(t *testing.T) {
	all := runs(api.Bits{N: 12, B: []byte{35, 8}}, true)
	bytes := parts(6, 12)
	for range 2 {
		many, masks := 0, 0
		for r := range all {
			many += r.Many
		}
		for i, mask := range bytes {
			masks += i * int(mask)
		}
		if many != 4 || masks != 255+2*3 {
			t.Error(many, masks)
		}
		for range all {
			break
		}
		for range bytes {
			break
		}
	}
}
