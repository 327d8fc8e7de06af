package disk

import (
	"errors"
	"slices"
	"testing"

	"archivolt/api"
)

// No call may panic: even what nothing here panics with becomes an error.
func TestCall(t *testing.T) {
	for _, c := range []struct {
		ended any
		e     api.Errno
	}{{api.ErrIO, api.ErrIO}, {api.ErrFull, api.ErrFull}, {"another one", api.ErrArg}, {errors.New("another one"), api.ErrArg}} {
		if e := call(func() { panic(c.ended) }); e != c.e {
			t.Error(c, e)
		}
	}
	done := false
	if e := call(func() { done = true }); e != api.OK || !done {
		t.Error(e, done)
	}
}

// Each kind of event is there.
func TestEvents(t *testing.T) {
	d := blank(2)
	l := d.events()
	for kind := syncing; kind <= replacing; kind++ {
		if l[kind] == nil {
			t.Error(kind)
		}
	}
	if len(l) != int(replacing)+1 {
		t.Error(len(l))
	}
}

// What is yielded may be ranged over in part, and again.
func TestRanging(t *testing.T) {
	q := emptyQueue()
	b := make([]byte, 4*api.Sector)
	for i := range 4 {
		b[i*api.Sector] = byte(i)
	}
	q.add(10, sectorsOf(b))
	for _, keep := range [][]int{{}, {2}, {3, 0, 1}, {0, 1, 2, 3}} {
		for end := range len(keep) + 1 {
			for range 2 {
				var places []int
				for p := range q.kept(keep) {
					if len(places) == end {
						break
					}
					if p.at != 10+int(p.has[0]) {
						t.Error(p)
					}
					places = append(places, p.at-10)
				}
				if !slices.Equal(places, keep[:end]) {
					t.Error(keep, end, places)
				}
			}
		}
	}
}

// Neighbours that are equal are one and the same sector; others, and those that differ in one byte, are not.
func TestShared(t *testing.T) {
	b := make([]byte, 5*api.Sector)
	b[2*api.Sector+63] = 1
	l := sectorsOf(b)
	if len(l) != 5 || l[0] != l[1] || l[1] == l[2] || l[2] == l[3] || l[3] != l[4] || l[2][63] != 1 || l[3][63] != 0 {
		t.Error(l)
	}
	if len(sectorsOf(nil)) != 0 {
		t.Error(sectorsOf(nil))
	}
}

// What a disk keeps for its queue is no more than the queue needs.
func TestNewest(t *testing.T) {
	d := blank(4)
	b := make([]byte, 3*api.Sector)
	for range 5 {
		d.Write(1, b)
	}
	if len(d.newest) != 3 {
		t.Error(d.newest)
	}
	for _, end := range []func() api.Errno{d.Sync, func() api.Errno { return d.Crash(nil) }, d.Die, d.Replace} {
		if e := end(); e != api.OK || len(d.newest) != 0 || len(d.puts) != 0 {
			t.Error(e, d.newest, d.puts)
		}
		d.Replace()
		d.Write(1, b)
	}
}
