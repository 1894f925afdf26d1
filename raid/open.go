package raid

import (
	"bytes"

	"ashlar/api"
	"ashlar/lay"
	"ashlar/shelf"
	"ashlar/super"
)

const saidBlocks = 2 // of a disk, for what it says of the array

// Open begins with an array that there is, and mends what a crash left.
func Open(s *shelf.Shelf) (*Volume, api.Errno) {
	if s.Off() {
		return nil, api.ErrOff
	}
	v := over(s)
	sayings := v.sayings()
	newest, some := super.Newest(sayings)
	if !some {
		return nil, api.ErrCode
	}
	if e := v.agree(sayings[newest]); e != api.OK {
		return nil, e
	}
	if _, e := v.as(sayings[newest]); e != api.OK {
		return nil, e
	}
	if e := v.replay(); e != api.OK {
		return nil, e
	}
	if e := v.Flush(); e != api.OK {
		return nil, e
	}
	return v, api.OK
}

// sayings are all that hold of what the disks say.
func (v *Volume) sayings() []api.Super {
	var all []api.Super
	for number := range v.disks {
		for block := range saidBlocks {
			if said, holds := v.saying(number, block); holds {
				all = append(all, said)
			}
		}
	}
	return all
}

// saying is what a disk says in a block; false: nothing that holds.
func (v *Volume) saying(number, block int) (api.Super, bool) {
	b, e := v.disks[number].Read(block)
	if e != api.OK {
		return api.Super{}, false
	}
	said, e := super.Decode(b)
	if e != api.OK || said.Disk != number || super.Slot(said.Gen) != block || !v.fits(said) {
		return api.Super{}, false
	}
	return said, true
}

// agree makes those disks say what the array is that say something else.
func (v *Volume) agree(newest api.Super) api.Errno {
	for number := range v.disks {
		if said, holds := v.saying(number, super.Slot(newest.Gen)); holds && super.Alike(said, newest) {
			continue
		}
		if e := butDead(v.sayOn(number, newest)); e != api.OK {
			return e
		}
	}
	return api.OK
}

// replay lets the stripes that were being written go with their parities.
func (v *Volume) replay() api.Errno {
	for number := range v.disks {
		for k := range v.said.Logs {
			if e := v.replaySlot(slot{number, k}); e != api.OK {
				return e
			}
		}
	}
	return api.OK
}

// replaySlot takes the slot for used, if it is not clear: the next flush clears it, when the parity is sure.
func (v *Volume) replaySlot(at slot) api.Errno {
	r, e := v.disks[at.disk].log.Get(at.number)
	switch e {
	case api.OK:
		v.used[at] = struct{}{}
		return v.redo(at.disk, r)
	case api.ErrBad, api.ErrCode:
		v.used[at] = struct{}{}
		return api.OK
	case api.ErrNone:
		return api.OK
	}
	return butDead(e)
}

// redo makes a stripe's parity go with the block that a record was put for. If that block is lacking,
// the parity as it is, old or new, is what tells its bytes.
func (v *Volume) redo(number int, r api.Record) api.Errno {
	if r.Stripe >= v.said.Stripes || r.Place >= v.said.Members-1 {
		return api.OK
	}
	members, e := lay.Members(v.said.Members, r.Stripe)
	if e != api.OK {
		return e
	}
	parity := members[len(members)-1]
	if v.numberOf(r.Stripe, parity) != number {
		return api.OK
	}
	b, e := v.look(r.Stripe, members[r.Place])
	switch {
	case isLacking(e):
		return api.OK
	case e != api.OK:
		return e
	}
	return v.makeSo(r.Stripe, parity, xor(r.Part, b))
}

// makeSo lets a member's block of a stripe have bytes, if it has others.
func (v *Volume) makeSo(stripe, member int, b []byte) api.Errno {
	if was, e := v.look(stripe, member); e == api.OK && bytes.Equal(was, b) {
		return api.OK
	}
	return v.set(stripe, member, b)
}
