package disk_test

import (
	"bytes"
	"slices"
	"testing"

	"archivolt/api"
	"archivolt/disk"
)

// Any calls, one after the other, do what they do to a plain disk.
func TestPlain(t *testing.T) {
	r := chance()
	for range 200 {
		n := 1 + r.Intn(6)
		d, p := newDisk(t, n), newPlain(n)
		for range 100 {
			step(t, r, d, p)
			wantState(t, d, p.Device)
		}
		if t.Failed() {
			return
		}
	}
}

// orders returns all ways to choose some of many indices, in all orders.
func orders(many int) [][]int {
	all := [][]int{{}}
	for i := 0; i < len(all); i++ {
		for k := range many {
			if !slices.Contains(all[i], k) {
				all = append(all, append(slices.Clone(all[i]), k))
			}
		}
	}
	return all
}

// allowed reports whether a sector may have some bytes behind a crash of a disk.
func allowed(p *plain, at int, b []byte) bool {
	return bytes.Equal(b, p.medium(at)) || slices.ContainsFunc(p.Queue, func(w api.Put) bool {
		return w.At == at && bytes.Equal(w.Bytes, b)
	})
}

func TestP7_8AfterACrash(t *testing.T) {
	d, p := newDisk(t, 4), newPlain(4)
	want(t, api.OK, d.Write(0, filled(1, 2, 3, 4)), d.Sync(), d.Write(0, filled(5, 6)), d.Write(1, filled(7)), d.Write(0, filled(8)), d.Write(3, filled(9)))
	p.Device = good[api.Device](t)(d.State())
	seen := map[string]bool{}
	for _, keep := range orders(5) {
		c := d.Copy()
		want(t, api.OK, c.Crash(keep))
		b := good[[]byte](t)(c.Read(0, 4))
		for at := range 4 {
			if !allowed(p, at, b[at*api.Sector:(at+1)*api.Sector]) {
				t.Error(keep, at, b)
			}
		}
		if !bytes.Equal(b[2*api.Sector:3*api.Sector], filled(3)) {
			t.Error(keep, "what was synced is lost")
		}
		seen[string(b)] = true
	}
	// All that may be left is left by some crash: 3 kinds of the sector 0, 3 of 1, and 2 of 3.
	if len(seen) != 3*3*2 {
		t.Error(len(seen))
	}
}

func TestP7_8AfterAnyCrash(t *testing.T) {
	r := chance()
	for range 2000 {
		d, p := used(t, r, 1+r.Intn(5), r.Intn(25))
		before := copyOf(p.Device)
		keep := r.Perm(len(p.Queue))[:r.Intn(len(p.Queue)+1)]
		want(t, api.OK, d.Crash(keep))
		after := good[api.Device](t)(d.State())
		for at := range p.size() {
			if !allowed(p, at, after.Data[at*api.Sector:(at+1)*api.Sector]) {
				t.Fatal(at, before, keep)
			}
			touched := slices.ContainsFunc(keep, func(k int) bool { return before.Queue[k].At == at })
			if slices.Contains(after.Bad, at) != (slices.Contains(before.Bad, at) && !touched) {
				t.Fatal(at, before, keep, after.Bad)
			}
		}
	}
}

func TestP7_9Reads(t *testing.T) {
	r := chance()
	const n = 5
	for range 200 {
		d := newDisk(t, n)
		last := make([]byte, n)
		for range 60 {
			switch r.Intn(4) {
			case 0:
				want(t, api.OK, d.Sync())
			case 1:
				b := good[[]byte](t)(d.Read(0, n))
				want(t, api.OK, d.Sync())
				if !bytes.Equal(b, good[[]byte](t)(d.Read(0, n))) {
					t.Fatal("Sync changed what is read")
				}
			default:
				at := r.Intn(n)
				for i := at; i < min(n, at+1+r.Intn(3)); i++ {
					last[i] = byte(r.Intn(256))
					want(t, api.OK, d.Write(i, filled(last[i])))
				}
			}
			wantRead(t, d, 0, last...)
			at := r.Intn(n)
			wantRead(t, d, at, last[at:]...)
		}
	}
}

// Sync changes nothing that is read, bad sectors and those behind which the power is gone among it.
func TestP7_9SyncOfAny(t *testing.T) {
	r := chance()
	for range 1000 {
		d, p := used(t, r, 1+r.Intn(5), r.Intn(25))
		if p.stopped() || p.Armed {
			continue
		}
		c := d.Copy()
		want(t, api.OK, c.Sync())
		for at := range p.size() {
			a, e := d.Read(at, 1)
			b, f := c.Read(at, 1)
			if !bytes.Equal(a, b) || e != f {
				t.Fatal(at, e, f, p)
			}
		}
	}
}

func TestP7_10Sure(t *testing.T) {
	r := chance()
	for range 1000 {
		d, p := used(t, r, 1+r.Intn(5), r.Intn(25))
		if p.stopped() {
			continue
		}
		want(t, api.OK, d.Stop(-1), d.Sync())
		x := good[api.Device](t)(d.State())
		want(t, api.OK, d.Crash(nil))
		wantState(t, d, x)
		want(t, api.ErrArg, d.Crash([]int{0}))
		wantState(t, d, x)
	}
}

func TestP7_11Copies(t *testing.T) {
	r := chance()
	for range 300 {
		d, p := used(t, r, 1+r.Intn(5), r.Intn(20))
		q := &plain{copyOf(p.Device)}
		c := d.Copy()
		for range 20 {
			step(t, r, d, p)
			wantState(t, c, q.Device)
			step(t, r, c, q)
			wantState(t, d, p.Device)
		}
		if t.Failed() {
			return
		}
	}
}

func TestP7_11LoadOfState(t *testing.T) {
	r := chance()
	for range 500 {
		d, p := used(t, r, 1+r.Intn(5), r.Intn(30))
		x := good[api.Device](t)(d.State())
		c := good[*disk.Disk](t)(disk.Load(x))
		wantState(t, c, p.Device)
		q := &plain{copyOf(p.Device)}
		for range 20 {
			step(t, r, c, q)
			wantState(t, c, q.Device)
			wantState(t, d, p.Device)
		}
		if t.Failed() {
			return
		}
	}
}
