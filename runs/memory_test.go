package runs_test

import (
	"bytes"
	"slices"
	"testing"

	"archivolt/api"
	"archivolt/runs"
)

// spare returns l with more runs behind its end, up to its capacity, and a function that reports whether all of them are as they were.
func spare(l []api.Run) ([]api.Run, func() bool) {
	all := slices.Concat(l, list(77, 1, 78, 1, 79, 1))
	before := slices.Clone(all)
	return all[:len(l)], func() bool { return slices.Equal(all, before) }
}

// R6: mappings that are arguments are not modified, also not behind their ends, and share no memory with results, nor do these with each other.
func TestR6Mappings(t *testing.T) {
	l, lSame := spare(sample())
	more, moreSame := spare(list(40, 1, -1, 1, 50, 2))
	single := func(l []api.Run, e api.Errno) ([]api.Run, []api.Run, api.Errno) { return l, nil, e }
	for i, made := range []func() ([]api.Run, []api.Run, api.Errno){
		func() ([]api.Run, []api.Run, api.Errno) { return single(runs.Norm(l)) },
		func() ([]api.Run, []api.Run, api.Errno) { return runs.Cut(l, 0) },
		func() ([]api.Run, []api.Run, api.Errno) { return runs.Cut(l, 3) },
		func() ([]api.Run, []api.Run, api.Errno) { return runs.Cut(l, 6) },
		func() ([]api.Run, []api.Run, api.Errno) { return single(runs.Join(l, more)) },
		func() ([]api.Run, []api.Run, api.Errno) { return single(runs.Join(l, nil)) },
		func() ([]api.Run, []api.Run, api.Errno) { return single(runs.Join(nil, more)) },
		func() ([]api.Run, []api.Run, api.Errno) { return single(runs.Join(l, l)) },
		func() ([]api.Run, []api.Run, api.Errno) { return single(runs.Insert(l, 2, more)) },
		func() ([]api.Run, []api.Run, api.Errno) { return single(runs.Insert(l, 2, nil)) },
		func() ([]api.Run, []api.Run, api.Errno) { return single(runs.Insert(nil, 0, more)) },
		func() ([]api.Run, []api.Run, api.Errno) { return runs.Remove(l, 2, 1) },
		func() ([]api.Run, []api.Run, api.Errno) { return runs.Remove(l, 0, 6) },
		func() ([]api.Run, []api.Run, api.Errno) { return runs.Punch(l, 0, 6) },
		func() ([]api.Run, []api.Run, api.Errno) { return runs.Punch(l, 0, 0) },
		func() ([]api.Run, []api.Run, api.Errno) { return runs.Put(l, 1, more) },
		func() ([]api.Run, []api.Run, api.Errno) { return runs.Put(l, 0, nil) },
		func() ([]api.Run, []api.Run, api.Errno) { return runs.Put(nil, 9, more) },
		func() ([]api.Run, []api.Run, api.Errno) { return runs.Put(l, 0, l) },
	} {
		a, b, e := made()
		if e != api.OK {
			t.Fatal(i, e)
		}
		a2, b2, _ := made()
		spoil(a)
		if !slices.Equal(b, b2) {
			t.Error(i, "the two results share memory")
		}
		spoil(b)
		a3, b3, _ := made()
		if !slices.Equal(a2, a3) || !slices.Equal(b2, b3) {
			t.Error(i, "results of two calls share memory")
		}
		if !lSame() || !moreSame() {
			t.Fatal(i, "an argument was modified, or shares memory with a result")
		}
	}
}

// spoil changes runs, and what lies behind them up to their capacity.
func spoil(l []api.Run) {
	for i := range l[:cap(l)] {
		l[:cap(l)][i] = api.Run{To: 123, Many: 45}
	}
}

// R6: calls that only look at mappings leave them as they are, also where they need another order.
func TestR6OnlyRead(t *testing.T) {
	l, lSame := spare(list(-1, 1, 9, 2, 3, 1, 4, 1, -1, 1, 3, 1))
	more, moreSame := spare(list(30, 1, -1, 2, 10, 1))
	runs.Valid(l)
	runs.Same(l, more)
	runs.Size(l)
	runs.Map(l, 3)
	runs.Twice(l)
	runs.Shared(l, more)
	runs.Shared(more, l)
	runs.Pack(l, 9)
	pages, _ := runs.Where(l, 3)
	clear(pages)
	if again, _ := runs.Where(l, 3); !slices.Equal(again, []int{3, 6}) {
		t.Error(again)
	}
	if !lSame() || !moreSame() {
		t.Error("an argument was modified")
	}
}

// R6 of what is packed.
func TestR6Packed(t *testing.T) {
	l, lSame := spare(sample())
	for _, most := range []int{1, 5, 100} {
		b, _, _ := runs.Pack(l, most)
		again, _, _ := runs.Pack(l, most)
		before := bytes.Clone(again)
		for i := range b[:cap(b)] {
			b[:cap(b)][i] ^= 255
		}
		if !bytes.Equal(again, before) || !lSame() {
			t.Error(most)
		}
	}
	all := []byte{17, 2, 5, 1, 1, 17, 3, 2, 0, 66, 77}
	before := bytes.Clone(all)
	first, _, _ := runs.Unpack(all[:9])
	second, _, _ := runs.Unpack(all[:9])
	spoil(first)
	if !bytes.Equal(all, before) || !slices.Equal(second, sample()) {
		t.Error(all, second)
	}
}
