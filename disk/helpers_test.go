package disk_test

import (
	"bytes"
	"math/rand"
	"reflect"
	"slices"
	"testing"

	"archivolt/api"
	"archivolt/disk"
)

// chance returns a source of numbers that are the same in each run.
func chance() *rand.Rand { return rand.New(rand.NewSource(1)) }

// good returns a function that returns what a call does, and wants no error.
func good[T any](t *testing.T) func(T, api.Errno) T {
	return func(x T, e api.Errno) T {
		t.Helper()
		if e != api.OK {
			t.Fatal(e)
		}
		return x
	}
}

// want checks the errors of calls, one after the other.
func want(t *testing.T, e api.Errno, got ...api.Errno) {
	t.Helper()
	for i, f := range got {
		if f != e {
			t.Errorf("call %d: error %d, not %d", i, f, e)
		}
	}
}

func newDisk(t *testing.T, sectors int) *disk.Disk {
	t.Helper()
	return good[*disk.Disk](t)(disk.New(sectors))
}

// filled returns sectors, each of one byte.
func filled(kinds ...byte) []byte {
	var b []byte
	for _, x := range kinds {
		b = append(b, bytes.Repeat([]byte{x}, api.Sector)...)
	}
	return b
}

func put(at int, x byte) api.Put { return api.Put{At: at, Bytes: filled(x)} }

// wantRead checks what sectors from one on have.
func wantRead(t *testing.T, d *disk.Disk, at int, kinds ...byte) {
	t.Helper()
	if b, e := d.Read(at, len(kinds)); e != api.OK || !bytes.Equal(b, filled(kinds...)) {
		t.Errorf("Read(%d, %d): %v, %d", at, len(kinds), b, e)
	}
}

// wantNone checks that a call of Read fails.
func wantNone(t *testing.T, d *disk.Disk, at, many int, e api.Errno) {
	t.Helper()
	if b, f := d.Read(at, many); b != nil || f != e {
		t.Errorf("Read(%d, %d): %v, %d", at, many, b, f)
	}
}

// wantState checks the state of a disk, and what else tells of it.
func wantState(t *testing.T, d *disk.Disk, x api.Device) {
	t.Helper()
	s, e := d.State()
	if e != api.OK || !sameDevice(s, x) {
		t.Errorf("State: %v, %d, not %v", s, e, x)
	}
	if d.Size() != len(x.Data)/api.Sector || d.Alive() == x.Dead || d.Queued() != len(x.Queue) {
		t.Error(d.Size(), d.Alive(), d.Queued())
	}
}

// sameDevice compares plain data; no list is the same as an empty one.
func sameDevice(a, b api.Device) bool {
	return bytes.Equal(a.Data, b.Data) && slices.EqualFunc(a.Queue, b.Queue, samePut) && slices.Equal(a.Bad, b.Bad) &&
		a.Dead == b.Dead && a.Armed == b.Armed && a.Left == b.Left
}

func samePut(a, b api.Put) bool { return reflect.DeepEqual(a, b) }

// copyOf returns an independent copy of plain data.
func copyOf(x api.Device) api.Device {
	x.Data, x.Bad, x.Queue = slices.Clone(x.Data), slices.Clone(x.Bad), slices.Clone(x.Queue)
	for i, p := range x.Queue {
		x.Queue[i].Bytes = slices.Clone(p.Bytes)
	}
	return x
}

// plain is a disk that is its plain data.
type plain struct{ api.Device }

func newPlain(sectors int) *plain {
	return &plain{api.Device{Data: make([]byte, sectors*api.Sector)}}
}

func (p *plain) size() int { return len(p.Data) / api.Sector }

func (p *plain) stopped() bool { return p.Dead || p.Armed && p.Left == 0 }

func (p *plain) medium(at int) []byte { return p.Data[at*api.Sector : (at+1)*api.Sector] }

// has returns what a sector has, nil if it has none.
func (p *plain) has(at int) []byte {
	for i := len(p.Queue) - 1; i >= 0; i-- {
		if p.Queue[i].At == at {
			return p.Queue[i].Bytes
		}
	}
	if slices.Contains(p.Bad, at) {
		return nil
	}
	return p.medium(at)
}

func (p *plain) perform(w api.Put) {
	copy(p.medium(w.At), w.Bytes)
	p.Bad = slices.DeleteFunc(p.Bad, func(at int) bool { return at == w.At })
}

func (p *plain) read(at, many int) ([]byte, api.Errno) {
	if at < 0 || many < 0 || at > p.size() || many > p.size()-at {
		return nil, api.ErrArg
	}
	if p.stopped() {
		return nil, api.ErrIO
	}
	b := []byte{}
	for i := range many {
		one := p.has(at + i)
		if one == nil {
			return nil, api.ErrIO
		}
		b = append(b, one...)
	}
	return b, api.OK
}

func (p *plain) write(at int, b []byte) api.Errno {
	if len(b)%api.Sector != 0 || at < 0 || at+len(b)/api.Sector > p.size() {
		return api.ErrArg
	}
	if p.stopped() {
		return api.ErrIO
	}
	if len(p.Queue)+len(b)/api.Sector > api.MaxQueue {
		return api.ErrFull
	}
	for i := 0; i < len(b); i += api.Sector {
		p.Queue = append(p.Queue, api.Put{At: at + i/api.Sector, Bytes: bytes.Clone(b[i : i+api.Sector])})
	}
	if p.Armed {
		p.Left--
	}
	return api.OK
}

func (p *plain) sync() api.Errno {
	if p.stopped() {
		return api.ErrIO
	}
	for _, w := range p.Queue {
		p.perform(w)
	}
	p.Queue = nil
	if p.Armed {
		p.Left--
	}
	return api.OK
}

func (p *plain) crash(keep []int) api.Errno {
	for i, k := range keep {
		if k < 0 || k >= len(p.Queue) || slices.Contains(keep[:i], k) {
			return api.ErrArg
		}
	}
	for _, k := range keep {
		p.perform(p.Queue[k])
	}
	p.Queue, p.Armed, p.Left = nil, false, 0
	return api.OK
}

func (p *plain) stop(after int) api.Errno {
	if after < -1 {
		return api.ErrArg
	}
	if p.Dead {
		return api.ErrIO
	}
	p.Armed, p.Left = after != -1, after
	if after == -1 {
		p.Left = 0
	}
	return api.OK
}

func (p *plain) spoil(at int) api.Errno {
	if at < 0 || at >= p.size() {
		return api.ErrArg
	}
	if !slices.Contains(p.Bad, at) {
		p.Bad = append(p.Bad, at)
		slices.Sort(p.Bad)
	}
	return api.OK
}

func (p *plain) die() api.Errno {
	p.Queue, p.Dead, p.Armed, p.Left = nil, true, false, 0
	return api.OK
}

func (p *plain) replace() api.Errno {
	p.Device = newPlain(p.size()).Device
	return api.OK
}

// anySectors returns up to most sectors, seldom not whole ones.
func anySectors(r *rand.Rand, most int) []byte {
	var b []byte
	for range r.Intn(most + 1) {
		b = append(b, filled(byte(r.Intn(5)))...)
	}
	for i := range b {
		if r.Intn(40) == 0 {
			b[i] = byte(r.Intn(256))
		}
	}
	if len(b) > 0 && r.Intn(10) == 0 {
		return b[1+r.Intn(api.Sector):]
	}
	return b
}

// anyIndices returns numbers, mostly different indices of a list, in any order.
func anyIndices(r *rand.Rand, many int) []int {
	l := r.Perm(many)[:r.Intn(many+1)]
	switch r.Intn(12) {
	case 0:
		l = append(l, many)
	case 1:
		l = append(l, -1)
	case 2:
		l = append(l, l...)
	}
	return l
}

// step makes a call, as chance has it, of a disk and of a plain one, and checks that the results are the same.
func step(t *testing.T, r *rand.Rand, d *disk.Disk, p *plain) {
	t.Helper()
	n := p.size()
	var e, f api.Errno
	kind := r.Intn(40)
	switch {
	case kind < 10:
		at, many := r.Intn(n+3)-1, r.Intn(n+2)-1
		b, g := d.Read(at, many)
		c, h := p.read(at, many)
		if !bytes.Equal(b, c) || g != api.OK && b != nil {
			t.Fatal("Read", at, many, b, c)
		}
		e, f = g, h
	case kind < 24:
		at, b := r.Intn(n+2)-1, anySectors(r, n+1)
		e, f = d.Write(at, b), p.write(at, b)
	case kind < 27:
		e, f = d.Sync(), p.sync()
	case kind < 31:
		keep := anyIndices(r, len(p.Queue))
		e, f = d.Crash(keep), p.crash(keep)
	case kind < 33:
		after := r.Intn(9) - 2
		e, f = d.Stop(after), p.stop(after)
	case kind < 37:
		at := r.Intn(n+2) - 1
		e, f = d.Spoil(at), p.spoil(at)
	case kind == 37:
		e, f = d.Die(), p.die()
	default:
		e, f = d.Replace(), p.replace()
	}
	if e != f {
		t.Fatalf("call %d: error %d, not %d: %v", kind, e, f, p)
	}
}

// used returns a disk behind some calls, and the same plain one.
func used(t *testing.T, r *rand.Rand, sectors, calls int) (*disk.Disk, *plain) {
	t.Helper()
	d, p := newDisk(t, sectors), newPlain(sectors)
	for range calls {
		step(t, r, d, p)
	}
	return d, p
}
