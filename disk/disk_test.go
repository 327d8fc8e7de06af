package disk_test

import (
	"math"
	"testing"

	"archivolt/api"
	"archivolt/disk"
)

func TestP7_1New(t *testing.T) {
	for _, n := range []int{1, 2, 7, 4095, 4096} {
		d := newDisk(t, n)
		wantState(t, d, api.Device{Data: make([]byte, n*64)})
		wantRead(t, d, 0, make([]byte, n)...)
	}
	for _, n := range []int{0, -1, 4097, math.MinInt, math.MaxInt} {
		if d, e := disk.New(n); d != nil || e != api.ErrArg {
			t.Error(n, d, e)
		}
	}
}

func TestP7_1Load(t *testing.T) {
	full := api.Device{Data: filled(0, 0, 0)}
	for i := range api.MaxQueue {
		full.Queue = append(full.Queue, put(i%3, byte(i)))
	}
	for i, x := range []api.Device{
		{Data: filled(0)},
		{Data: filled(7)},
		{Data: filled(0, 0, 1, 1, 0)},
		{Data: make([]byte, api.MaxSects*api.Sector)},
		{Data: filled(1, 2, 3), Bad: []int{0, 2}},
		{Data: filled(1, 2, 3), Bad: []int{0, 1, 2}, Dead: true},
		{Data: filled(1, 2, 3), Queue: []api.Put{put(2, 5), put(0, 6), put(2, 7), put(2, 7)}, Bad: []int{1, 2}},
		{Data: filled(1, 2), Queue: []api.Put{put(1, 5)}, Armed: true},
		{Data: filled(1, 2), Queue: []api.Put{put(1, 5)}, Armed: true, Left: math.MaxInt},
		full,
	} {
		d, e := disk.Load(x)
		if e != api.OK {
			t.Fatal(i, e)
		}
		wantState(t, d, x)
	}
	d := good[*disk.Disk](t)(disk.Load(api.Device{Data: filled(1, 2, 3, 4), Queue: []api.Put{put(2, 5), put(0, 6), put(2, 7)}, Bad: []int{0, 1}}))
	wantRead(t, d, 2, 7, 4)
	wantRead(t, d, 0, 6)
	wantNone(t, d, 0, 2, api.ErrIO)
	want(t, api.OK, d.Crash([]int{2}))
	wantRead(t, d, 2, 7, 4)
	wantNone(t, d, 0, 1, api.ErrIO)
}

func TestP7_1LoadErrors(t *testing.T) {
	long := api.Device{Data: filled(0, 0, 0)}
	for i := range api.MaxQueue + 1 {
		long.Queue = append(long.Queue, put(i%3, 1))
	}
	for i, x := range []api.Device{
		{},
		{Data: filled(1)[1:]},
		{Data: append(filled(1), 1)},
		{Data: make([]byte, (api.MaxSects+1)*api.Sector)},
		{Data: filled(1, 2), Queue: []api.Put{put(2, 5)}},
		{Data: filled(1, 2), Queue: []api.Put{put(1, 5), put(-1, 5)}},
		{Data: filled(1, 2), Queue: []api.Put{put(math.MaxInt, 5)}},
		{Data: filled(1, 2), Queue: []api.Put{put(math.MinInt, 5)}},
		{Data: filled(1, 2), Queue: []api.Put{{At: 0}}},
		{Data: filled(1, 2), Queue: []api.Put{{At: 0, Bytes: filled(1)[1:]}}},
		{Data: filled(1, 2), Queue: []api.Put{{At: 0, Bytes: filled(1, 2)}}},
		{Data: filled(1, 2), Queue: []api.Put{{At: 0, Bytes: append(filled(1), 1)}}},
		{Data: filled(1, 2), Bad: []int{2}},
		{Data: filled(1, 2), Bad: []int{-1}},
		{Data: filled(1, 2), Bad: []int{0, 0}},
		{Data: filled(1, 2), Bad: []int{1, 0}},
		{Data: filled(1, 2), Bad: []int{0, 1, 2}},
		{Data: filled(1, 2), Bad: []int{0, math.MaxInt}},
		{Data: filled(1, 2), Queue: []api.Put{put(0, 5)}, Dead: true},
		{Data: filled(1, 2), Dead: true, Armed: true},
		{Data: filled(1, 2), Dead: true, Armed: true, Left: 1},
		{Data: filled(1, 2), Dead: true, Left: 1},
		{Data: filled(1, 2), Left: 1},
		{Data: filled(1, 2), Left: -1},
		{Data: filled(1, 2), Armed: true, Left: -1},
		long,
	} {
		if d, e := disk.Load(x); d != nil || e != api.ErrArg {
			t.Error(i, d, e)
		}
	}
}

func TestP7_2State(t *testing.T) {
	d := newDisk(t, 4)
	want(t, api.OK, d.Write(1, filled(5, 6)), d.Sync(), d.Spoil(3), d.Spoil(0), d.Write(3, filled(7)), d.Write(1, filled(8)), d.Write(3, filled(9)), d.Stop(3), d.Write(0, nil))
	wantState(t, d, api.Device{Data: filled(0, 5, 6, 0), Queue: []api.Put{put(3, 7), put(1, 8), put(3, 9)}, Bad: []int{0, 3}, Armed: true, Left: 2})
	if !d.Alive() || d.Queued() != 3 || d.Size() != 4 {
		t.Error(d.Alive(), d.Queued(), d.Size())
	}
	want(t, api.OK, d.Die())
	wantState(t, d, api.Device{Data: filled(0, 5, 6, 0), Bad: []int{0, 3}, Dead: true})
	if d.Alive() || d.Queued() != 0 || d.Size() != 4 {
		t.Error(d.Alive(), d.Queued(), d.Size())
	}
}

func TestP7_2Copy(t *testing.T) {
	r := chance()
	for range 300 {
		d, p := used(t, r, 1+r.Intn(5), r.Intn(30))
		wantState(t, d.Copy(), p.Device)
		wantState(t, d.Copy().Copy(), p.Device)
	}
}

func TestNil(t *testing.T) {
	var d *disk.Disk
	if x, e := d.State(); !sameDevice(x, api.Device{}) || e != api.ErrNil {
		t.Error(x, e)
	}
	if d.Copy() != nil || d.Size() != 0 || d.Alive() || d.Queued() != 0 {
		t.Error(d.Copy(), d.Size(), d.Alive(), d.Queued())
	}
	wantNone(t, d, 0, 1, api.ErrNil)
	wantNone(t, d, -1, -1, api.ErrNil)
	want(t, api.ErrNil, d.Write(0, filled(1)), d.Write(-1, filled(1)[1:]), d.Sync(), d.Crash(nil), d.Crash([]int{3}), d.Stop(1), d.Stop(-2), d.Spoil(0), d.Spoil(-1), d.Die(), d.Replace())
}

func TestP7_3Read(t *testing.T) {
	d := newDisk(t, 4)
	want(t, api.OK, d.Write(0, filled(1, 2, 3)), d.Sync(), d.Write(1, filled(4)), d.Write(3, filled(5)), d.Write(1, filled(6)))
	wantRead(t, d, 0, 1, 6, 3, 5)
	wantRead(t, d, 1, 6, 3)
	wantRead(t, d, 3, 5)
	for at := range 5 {
		wantRead(t, d, at)
	}
	for _, c := range [][2]int{{-1, 1}, {-1, 0}, {0, -1}, {1, -1}, {0, 5}, {4, 1}, {3, 2}, {5, 0}, {5, -1}, {math.MaxInt, 1}, {1, math.MaxInt}, {math.MaxInt, math.MaxInt}, {math.MinInt, math.MinInt}, {math.MinInt, 1}, {1, math.MinInt}, {math.MinInt, math.MaxInt}} {
		wantNone(t, d, c[0], c[1], api.ErrArg)
	}
}

func TestP7_3ReadBad(t *testing.T) {
	d := newDisk(t, 4)
	want(t, api.OK, d.Write(0, filled(1, 2, 3, 4)), d.Sync(), d.Spoil(1), d.Spoil(2), d.Write(2, filled(5)))
	wantRead(t, d, 0, 1)
	wantRead(t, d, 2, 5, 4)
	wantRead(t, d, 1)
	wantNone(t, d, 1, 1, api.ErrIO)
	wantNone(t, d, 0, 2, api.ErrIO)
	wantNone(t, d, 1, 3, api.ErrIO)
	wantNone(t, d, 1, 4, api.ErrArg)
	// That a sector cannot be read does not count as a call, and changes nothing.
	wantState(t, d, api.Device{Data: filled(1, 2, 3, 4), Queue: []api.Put{put(2, 5)}, Bad: []int{1, 2}})
}

func TestP7_3ReadStopped(t *testing.T) {
	gone, dead := newDisk(t, 2), newDisk(t, 2)
	want(t, api.OK, gone.Stop(0), dead.Die())
	for _, d := range []*disk.Disk{gone, dead} {
		wantNone(t, d, 0, 2, api.ErrIO)
		wantNone(t, d, 0, 0, api.ErrIO)
		wantNone(t, d, 1, 2, api.ErrArg)
		wantNone(t, d, -1, 1, api.ErrArg)
	}
	// Reads are not counted.
	want(t, api.OK, gone.Stop(1))
	for range 3 {
		wantRead(t, gone, 0, 0, 0)
	}
	want(t, api.OK, gone.Sync())
	wantNone(t, gone, 0, 2, api.ErrIO)
}

func TestP7_4Write(t *testing.T) {
	d := newDisk(t, 4)
	want(t, api.OK, d.Write(1, filled(1, 2)), d.Write(2, filled(3, 4)), d.Write(4, nil), d.Write(0, []byte{}), d.Write(0, filled(5, 6, 7, 8)))
	wantState(t, d, api.Device{Data: filled(0, 0, 0, 0), Queue: []api.Put{put(1, 1), put(2, 2), put(2, 3), put(3, 4), put(0, 5), put(1, 6), put(2, 7), put(3, 8)}})
	x := good[api.Device](t)(d.State())
	want(t, api.ErrArg,
		d.Write(-1, filled(1)), d.Write(4, filled(1)), d.Write(3, filled(1, 2)), d.Write(0, filled(1, 2, 3, 4, 5)), d.Write(5, nil), d.Write(-1, nil),
		d.Write(0, filled(1)[1:]), d.Write(0, append(filled(1), 0)), d.Write(0, []byte{1}), d.Write(math.MaxInt, filled(1)), d.Write(math.MinInt, filled(1)), d.Write(math.MinInt, nil), d.Write(math.MaxInt, nil))
	wantState(t, d, x)
}

// All bytes of a sector count, and all sectors of a write, also where neighbours are nearly the same.
func TestP7_4WriteBytes(t *testing.T) {
	d := newDisk(t, 3)
	for i := range api.Sector {
		b := filled(1, 1, 1)
		b[api.Sector+i] = 2
		want(t, api.OK, d.Write(0, b))
		if got := good[[]byte](t)(d.Read(0, 3)); string(got) != string(b) {
			t.Error(i, got)
		}
		want(t, api.OK, d.Sync())
		if got := good[[]byte](t)(d.Read(0, 3)); string(got) != string(b) {
			t.Error(i, got)
		}
	}
}

func TestP7_4WriteFull(t *testing.T) {
	d := newDisk(t, api.MaxSects)
	all := make([]byte, api.MaxSects*api.Sector)
	for range 15 {
		want(t, api.OK, d.Write(0, all))
	}
	want(t, api.OK, d.Write(1, all[api.Sector:]), d.Stop(5))
	want(t, api.ErrFull, d.Write(0, filled(1, 2)), d.Write(0, all))
	want(t, api.OK, d.Write(9, filled(3)), d.Write(0, nil))
	if d.Queued() != api.MaxQueue {
		t.Error(d.Queued())
	}
	want(t, api.ErrFull, d.Write(0, filled(1)))
	want(t, api.ErrArg, d.Write(0, filled(1)[1:]), d.Write(-1, filled(1)), d.Write(4096, filled(1)))
	// Errors were not counted: two of the five calls were good.
	if x := good[api.Device](t)(d.State()); !x.Armed || x.Left != 3 || len(x.Queue) != api.MaxQueue {
		t.Error(x.Armed, x.Left, len(x.Queue))
	}
	wantRead(t, d, 8, 0, 3, 0)
	want(t, api.OK, d.Stop(0))
	want(t, api.ErrIO, d.Write(0, filled(1)))
	want(t, api.OK, d.Stop(-1), d.Sync(), d.Write(0, filled(1)))
	if d.Queued() != 1 {
		t.Error(d.Queued())
	}
}

func TestP7_4WriteStopped(t *testing.T) {
	gone, dead := newDisk(t, 2), newDisk(t, 2)
	want(t, api.OK, gone.Write(0, filled(1)), gone.Stop(0), dead.Die())
	for _, d := range []*disk.Disk{gone, dead} {
		x := good[api.Device](t)(d.State())
		want(t, api.ErrIO, d.Write(0, filled(1)), d.Write(0, nil), d.Write(2, nil))
		want(t, api.ErrArg, d.Write(0, []byte{1}), d.Write(2, filled(1)), d.Write(-1, nil))
		wantState(t, d, x)
	}
}
