package disk_test

import (
	"bytes"
	"slices"
	"testing"

	"archivolt/api"
	"archivolt/disk"
)

// R6: what is written is neither modified nor kept, also behind its end.
func TestR6Write(t *testing.T) {
	d := newDisk(t, 4)
	all := filled(1, 2, 3, 4)
	before := bytes.Clone(all)
	want(t, api.OK, d.Write(1, all[:2*api.Sector]), d.Sync(), d.Write(2, all[:2*api.Sector]))
	if !bytes.Equal(all, before) {
		t.Error(all)
	}
	clear(all)
	wantRead(t, d, 0, 0, 1, 1, 2)
	want(t, api.OK, d.Sync())
	wantRead(t, d, 0, 0, 1, 1, 2)
}

// R6: what is read shares no memory with the disk.
func TestR6Read(t *testing.T) {
	d := newDisk(t, 3)
	want(t, api.OK, d.Write(0, filled(1, 1)), d.Sync(), d.Write(1, filled(2, 2)))
	for range 3 {
		b := good[[]byte](t)(d.Read(0, 3))
		clear(b[:cap(b)])
		wantRead(t, d, 0, 1, 2, 2)
		b = good[[]byte](t)(d.Read(1, 0))
		clear(b[:cap(b)])
		want(t, api.OK, d.Sync())
	}
}

func TestR6Crash(t *testing.T) {
	all := []int{3, 1, 0, 2, 7}
	d := newDisk(t, 2)
	want(t, api.OK, d.Write(0, filled(1, 2)), d.Write(0, filled(3, 4)), d.Crash(all[:3]))
	if !slices.Equal(all, []int{3, 1, 0, 2, 7}) {
		t.Error(all)
	}
	clear(all)
	wantRead(t, d, 0, 1, 2)
}

func device() api.Device {
	return api.Device{Data: filled(1, 1, 2), Queue: []api.Put{put(0, 4), put(2, 4), put(2, 5)}, Bad: []int{0, 1}, Armed: true, Left: 3}
}

// spoil changes all memory of plain data.
func spoil(x api.Device) {
	for _, p := range x.Queue[:cap(x.Queue)] {
		b := p.Bytes[:cap(p.Bytes)]
		for i := range b {
			b[i] ^= 255
		}
	}
	clear(x.Queue[:cap(x.Queue)])
	clear(x.Bad[:cap(x.Bad)])
	clear(x.Data[:cap(x.Data)])
}

func TestR6Load(t *testing.T) {
	x := device()
	d := good[*disk.Disk](t)(disk.Load(x))
	if !sameDevice(x, device()) {
		t.Error(x)
	}
	spoil(x)
	wantState(t, d, device())
	// What the disk does later does not reach the argument.
	x = device()
	d = good[*disk.Disk](t)(disk.Load(x))
	want(t, api.OK, d.Write(0, filled(7, 7, 7)), d.Sync(), d.Spoil(2))
	if !sameDevice(x, device()) {
		t.Error(x)
	}
}

func TestR6State(t *testing.T) {
	d := good[*disk.Disk](t)(disk.Load(device()))
	a, b := good[api.Device](t)(d.State()), good[api.Device](t)(d.State())
	spoil(a)
	wantState(t, d, device())
	if !sameDevice(b, device()) {
		t.Error(b)
	}
	want(t, api.OK, d.Write(0, filled(7, 7, 7)), d.Sync(), d.Spoil(2))
	if !sameDevice(b, device()) {
		t.Error(b)
	}
}

// R6: the elements of one result share no memory with each other, nor with its data.
func TestR6Elements(t *testing.T) {
	d := newDisk(t, 3)
	want(t, api.OK, d.Write(0, filled(1, 1, 1)), d.Sync(), d.Write(0, filled(1, 1, 1)))
	x := good[api.Device](t)(d.State())
	clear(x.Queue[1].Bytes[:cap(x.Queue[1].Bytes)])
	if !sameDevice(x, api.Device{Data: filled(1, 1, 1), Queue: []api.Put{put(0, 1), put(1, 0), put(2, 1)}}) {
		t.Error(x)
	}
	clear(x.Data[:cap(x.Data)])
	if !samePut(x.Queue[0], put(0, 1)) || !samePut(x.Queue[2], put(2, 1)) {
		t.Error(x)
	}
}
