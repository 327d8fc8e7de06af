package disk

import (
	"iter"

	"archivolt/api"
)

// power says whether the power will fail, and behind how many calls.
type power struct {
	armed bool
	left  int
}

func (p *power) isGone() bool { return p.armed && p.left == 0 }

// spend counts a call.
func (p *power) spend() {
	if p.armed {
		p.left--
	}
}

// event is a kind of what happens to a disk.
type event int

const (
	syncing event = iota
	crashing
	stopping
	spoiling
	dying
	replacing
)

// happen makes an event of a kind, of which some numbers say more, happen to a disk.
func (d *Disk) happen(kind event, numbers ...int) api.Errno {
	return call(func() {
		need(d != nil, api.ErrNil)
		d.events()[kind](numbers)
	})
}

// events returns what each kind of event does to a disk.
func (d *Disk) events() map[event]func([]int) {
	return map[event]func([]int){
		syncing:   d.sync,
		crashing:  d.crash,
		stopping:  d.stop,
		spoiling:  d.spoil,
		dying:     d.die,
		replacing: d.replace,
	}
}

// Sync brings the queue to the medium.
func (d *Disk) Sync() api.Errno { return d.happen(syncing) }

// Crash brings elements of the queue to the medium, in any order, and loses the others.
func (d *Disk) Crash(keep []int) api.Errno { return d.happen(crashing, keep...) }

// Stop says behind how many calls the power will fail.
func (d *Disk) Stop(after int) api.Errno { return d.happen(stopping, after) }

// Spoil makes a sector bad.
func (d *Disk) Spoil(at int) api.Errno { return d.happen(spoiling, at) }

// Die makes a disk dead.
func (d *Disk) Die() api.Errno { return d.happen(dying) }

// Replace puts another disk, of zeros, in the place of one.
func (d *Disk) Replace() api.Errno { return d.happen(replacing) }

func (d *Disk) sync([]int) {
	need(d.works(), api.ErrIO)
	d.empty(d.all())
	d.spend()
}

func (d *Disk) crash(keep []int) {
	need(d.areIndices(keep), api.ErrArg)
	d.empty(d.kept(keep))
	d.power = power{}
}

// empty performs some elements of the queue, and loses the others.
func (d *Disk) empty(performed iter.Seq[put]) {
	for p := range performed {
		d.perform(p)
	}
	d.queue = emptyQueue()
}

func (d *Disk) stop(numbers []int) {
	after := numbers[0]
	need(after >= -1, api.ErrArg)
	need(!d.dead, api.ErrIO)
	d.power = power{after >= 0, max(after, 0)}
}

func (d *Disk) spoil(numbers []int) {
	at := numbers[0]
	need(d.isSector(at), api.ErrArg)
	d.bad[at] = true
}

func (d *Disk) die([]int) {
	d.queue = emptyQueue()
	d.power = power{}
	d.dead = true
}

func (d *Disk) replace([]int) { *d = *blank(d.Size()) }
