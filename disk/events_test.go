package disk_test

import (
	"math"
	"testing"

	"archivolt/api"
	"archivolt/disk"
)

// The examples of the chapter, one after the other.
func TestExamples(t *testing.T) {
	d := newDisk(t, 4)
	want(t, api.OK, d.Write(1, filled(1, 2)))
	wantRead(t, d, 1, 1)
	if d.Queued() != 2 {
		t.Error(d.Queued())
	}
	want(t, api.OK, d.Sync(), d.Write(1, filled(3)), d.Write(1, filled(1)), d.Crash([]int{0}))
	wantRead(t, d, 1, 3)
	if d.Queued() != 0 {
		t.Error(d.Queued())
	}
	want(t, api.OK, d.Write(2, filled(1)), d.Write(2, filled(3)), d.Crash([]int{1, 0}))
	wantRead(t, d, 2, 1)
	want(t, api.OK, d.Spoil(3))
	wantNone(t, d, 3, 1, api.ErrIO)
	want(t, api.OK, d.Write(3, filled(2)))
	wantRead(t, d, 3, 2)
	want(t, api.OK, d.Crash(nil))
	wantNone(t, d, 3, 1, api.ErrIO)
	want(t, api.ErrArg, d.Write(0, filled(1)[:63]))
	want(t, api.OK, d.Stop(1), d.Write(0, filled(2)))
	want(t, api.ErrIO, d.Sync())
	wantNone(t, d, 0, 1, api.ErrIO)
	want(t, api.OK, d.Crash([]int{0}))
	wantRead(t, d, 0, 2)
	want(t, api.OK, d.Die())
	wantNone(t, d, 0, 1, api.ErrIO)
	want(t, api.OK, d.Replace())
	wantRead(t, d, 1, 0)
}

func TestP7_5Sync(t *testing.T) {
	d := newDisk(t, 4)
	want(t, api.OK, d.Sync(), d.Spoil(0), d.Spoil(1), d.Spoil(2), d.Write(1, filled(1, 2, 3)), d.Write(2, filled(4)), d.Write(1, filled(5)), d.Write(2, filled(6)), d.Sync())
	wantState(t, d, api.Device{Data: filled(0, 5, 6, 3), Bad: []int{0}})
	want(t, api.OK, d.Stop(2), d.Sync())
	wantState(t, d, api.Device{Data: filled(0, 5, 6, 3), Bad: []int{0}, Armed: true, Left: 1})
	want(t, api.OK, d.Write(0, filled(9)))
	x := api.Device{Data: filled(0, 5, 6, 3), Queue: []api.Put{put(0, 9)}, Bad: []int{0}, Armed: true}
	wantState(t, d, x)
	want(t, api.ErrIO, d.Sync(), d.Sync())
	wantState(t, d, x)
	want(t, api.OK, d.Die())
	want(t, api.ErrIO, d.Sync())
	wantState(t, d, api.Device{Data: filled(0, 5, 6, 3), Bad: []int{0}, Dead: true})
}

func TestP7_6Crash(t *testing.T) {
	x := api.Device{Data: filled(0, 1, 2, 3), Queue: []api.Put{put(1, 4), put(2, 5), put(1, 6), put(3, 7)}, Bad: []int{0, 2, 3}, Armed: true, Left: 1}
	for _, c := range []struct {
		keep []int
		data []byte
		bad  []int
	}{
		{nil, filled(0, 1, 2, 3), []int{0, 2, 3}},
		{[]int{}, filled(0, 1, 2, 3), []int{0, 2, 3}},
		{[]int{0}, filled(0, 4, 2, 3), []int{0, 2, 3}},
		{[]int{2, 0}, filled(0, 4, 2, 3), []int{0, 2, 3}},
		{[]int{0, 2}, filled(0, 6, 2, 3), []int{0, 2, 3}},
		{[]int{1}, filled(0, 1, 5, 3), []int{0, 3}},
		{[]int{3, 1, 2, 0}, filled(0, 4, 5, 7), []int{0}},
		{[]int{0, 1, 2, 3}, filled(0, 6, 5, 7), []int{0}},
	} {
		d := good[*disk.Disk](t)(disk.Load(x))
		want(t, api.OK, d.Crash(c.keep))
		wantState(t, d, api.Device{Data: c.data, Bad: c.bad})
		want(t, api.OK, d.Crash(nil))
		want(t, api.ErrArg, d.Crash([]int{0}))
		wantState(t, d, api.Device{Data: c.data, Bad: c.bad})
	}
	d := good[*disk.Disk](t)(disk.Load(x))
	for _, keep := range [][]int{{4}, {-1}, {0, 0}, {0, 1, 2, 3, 0}, {0, 1, 4}, {3, 2, -1}, {math.MaxInt}, {math.MinInt}, {1, 2, 1}} {
		want(t, api.ErrArg, d.Crash(keep))
		wantState(t, d, x)
	}
}

func TestP7_6CrashDead(t *testing.T) {
	d := newDisk(t, 2)
	want(t, api.OK, d.Write(0, filled(1, 2)), d.Die(), d.Crash(nil))
	want(t, api.ErrArg, d.Crash([]int{0}))
	wantState(t, d, api.Device{Data: filled(0, 0), Dead: true})
}

func TestP7_6CrashPower(t *testing.T) {
	for after := range 3 {
		d := newDisk(t, 2)
		want(t, api.OK, d.Stop(after), d.Crash(nil))
		wantState(t, d, api.Device{Data: filled(0, 0)})
		for range 5 {
			want(t, api.OK, d.Write(0, filled(1)), d.Sync())
			wantRead(t, d, 0, 1, 0)
		}
	}
}

func TestP7_6Stop(t *testing.T) {
	for after := range 7 {
		d, p := newDisk(t, 2), newPlain(2)
		want(t, api.OK, d.Stop(after), p.stop(after))
		for i := range after {
			wantState(t, d, p.Device)
			// Reads and errors do not count.
			wantRead(t, d, 1, 0)
			wantNone(t, d, 2, 1, api.ErrArg)
			want(t, api.ErrArg, d.Write(2, filled(1)), d.Crash([]int{-1}), d.Stop(-2), d.Spoil(2))
			switch i % 3 {
			case 0:
				want(t, api.OK, d.Write(0, nil), p.write(0, nil))
			case 1:
				want(t, api.OK, d.Write(0, filled(1)), p.write(0, filled(1)))
			default:
				want(t, api.OK, d.Sync(), p.sync())
			}
		}
		want(t, api.ErrIO, d.Write(0, nil), d.Write(0, filled(1)), d.Sync())
		wantNone(t, d, 0, 1, api.ErrIO)
		wantState(t, d, p.Device)
	}
}

// Nothing but Crash, Stop, Die and Replace brings the power back.
func TestP7_6StopAgain(t *testing.T) {
	d := newDisk(t, 2)
	want(t, api.OK, d.Stop(0), d.Spoil(1), d.Stop(0))
	want(t, api.ErrIO, d.Sync())
	wantState(t, d.Copy(), api.Device{Data: filled(0, 0), Bad: []int{1}, Armed: true})
	want(t, api.ErrIO, d.Copy().Sync())
	want(t, api.OK, d.Stop(2), d.Sync(), d.Stop(2), d.Write(0, filled(1)), d.Sync())
	want(t, api.ErrIO, d.Sync())
	want(t, api.OK, d.Stop(-1), d.Sync(), d.Sync(), d.Sync())
	wantState(t, d, api.Device{Data: filled(1, 0), Bad: []int{1}})
}

func TestP7_6StopErrors(t *testing.T) {
	d := newDisk(t, 1)
	want(t, api.ErrArg, d.Stop(-2), d.Stop(math.MinInt))
	want(t, api.OK, d.Stop(math.MaxInt))
	wantState(t, d, api.Device{Data: filled(0), Armed: true, Left: math.MaxInt})
	want(t, api.ErrArg, d.Stop(-2))
	wantState(t, d, api.Device{Data: filled(0), Armed: true, Left: math.MaxInt})
	want(t, api.OK, d.Sync())
	wantState(t, d, api.Device{Data: filled(0), Armed: true, Left: math.MaxInt - 1})
	want(t, api.OK, d.Stop(-1))
	wantState(t, d, api.Device{Data: filled(0)})
	want(t, api.OK, d.Die())
	want(t, api.ErrIO, d.Stop(-1), d.Stop(0), d.Stop(3))
	want(t, api.ErrArg, d.Stop(-2))
	wantState(t, d, api.Device{Data: filled(0), Dead: true})
}

func TestP7_7Spoil(t *testing.T) {
	d := newDisk(t, 3)
	want(t, api.OK, d.Write(0, filled(1, 2, 3)), d.Sync(), d.Write(1, filled(4)), d.Spoil(2), d.Spoil(1), d.Spoil(2))
	wantState(t, d, api.Device{Data: filled(1, 2, 3), Queue: []api.Put{put(1, 4)}, Bad: []int{1, 2}})
	wantRead(t, d, 0, 1, 4)
	want(t, api.ErrArg, d.Spoil(-1), d.Spoil(3), d.Spoil(math.MaxInt), d.Spoil(math.MinInt))
	want(t, api.OK, d.Sync())
	wantRead(t, d, 0, 1, 4)
	wantState(t, d, api.Device{Data: filled(1, 4, 3), Bad: []int{2}})
	want(t, api.OK, d.Stop(0), d.Spoil(0), d.Die(), d.Spoil(1))
	wantState(t, d, api.Device{Data: filled(1, 4, 3), Bad: []int{0, 1, 2}, Dead: true})
	want(t, api.ErrArg, d.Spoil(3))
}

func TestP7_7Die(t *testing.T) {
	x := api.Device{Data: filled(1, 2), Queue: []api.Put{put(1, 4)}, Bad: []int{1}, Armed: true, Left: 4}
	d := good[*disk.Disk](t)(disk.Load(x))
	for range 2 {
		want(t, api.OK, d.Die())
		wantState(t, d, api.Device{Data: filled(1, 2), Bad: []int{1}, Dead: true})
		want(t, api.ErrIO, d.Write(0, filled(1)), d.Sync(), d.Stop(1))
		wantNone(t, d, 0, 1, api.ErrIO)
	}
}

func TestP7_7Replace(t *testing.T) {
	for _, x := range []api.Device{
		{Data: filled(1, 2)},
		{Data: filled(1, 2), Queue: []api.Put{put(1, 4)}, Bad: []int{1}, Armed: true},
		{Data: filled(1, 2), Queue: []api.Put{put(1, 4)}, Bad: []int{0, 1}, Armed: true, Left: 4},
		{Data: filled(1, 2), Bad: []int{0}, Dead: true},
	} {
		d := good[*disk.Disk](t)(disk.Load(x))
		want(t, api.OK, d.Replace())
		wantState(t, d, api.Device{Data: filled(0, 0)})
		wantRead(t, d, 0, 0, 0)
		want(t, api.OK, d.Write(1, filled(3)), d.Sync())
		wantRead(t, d, 0, 0, 3)
		if !d.Alive() {
			t.Error(x)
		}
	}
}
