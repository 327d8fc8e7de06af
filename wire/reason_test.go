package wire

import (
	"testing"

	"archivolt/api"
)

// No call may panic: even what nothing here panics with becomes an error.
func TestReason(t *testing.T) {
	for _, c := range []struct {
		ended any
		e     api.Errno
	}{{api.ErrRange, api.ErrRange}, {api.ErrForm, api.ErrForm}, {"another one", api.ErrForm}} {
		if e := reason(c.ended); e != c.e {
			t.Error(c, e)
		}
	}
}

// The bytes of a variable number may be ranged over in part, and again.
func TestGroups(t *testing.T) {
	all := groups(300)
	for range 2 {
		var b []byte
		for x := range all {
			b = append(b, x)
		}
		if string(b) != "\xac\x02" {
			t.Error(b)
		}
		for x := range all {
			if x != 172 {
				t.Error(x)
			}
			break
		}
	}
}
