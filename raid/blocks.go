package raid

import (
	"ashlar/api"
	"ashlar/lay"
	"ashlar/octets"
)

// Read is a block's bytes.
func (v *Volume) Read(block int) ([]byte, api.Errno) {
	if e := v.refusal(v.has(block)); e != api.OK {
		return nil, e
	}
	spot, e := lay.Map(v.said.Members, block)
	if e != api.OK {
		return nil, e
	}
	b, was := v.look(spot.Stripe, spot.Member)
	if !isLacking(was) {
		return b, was
	}
	b, e = v.should(spot.Stripe, spot.Member)
	if e != api.OK {
		return nil, e
	}
	if was == api.ErrBad {
		if e := v.set(spot.Stripe, spot.Member, b); e != api.OK {
			return nil, e
		}
	}
	return b, api.OK
}

// refusal is what a volume answers to a call that it does not do; fits tells whether the call's arguments may be.
func (v *Volume) refusal(fits bool) api.Errno {
	switch {
	case v == nil:
		return api.ErrClosed
	case !fits:
		return api.ErrArg
	case v.shelf.Off():
		return api.ErrOff
	}
	return api.OK
}

func (v *Volume) has(block int) bool {
	return block >= 0 && block < v.Size()
}

// look is a member's block of a stripe, as its disk has it.
func (v *Volume) look(stripe, member int) ([]byte, api.Errno) {
	return v.diskOf(stripe, member).Read(v.base + stripe)
}

func (v *Volume) set(stripe, member int, b []byte) api.Errno {
	return v.diskOf(stripe, member).Write(v.base+stripe, b)
}

// isLacking tells whether a block is, by what its disk refused.
func isLacking(e api.Errno) bool {
	return e == api.ErrDead || e == api.ErrBad
}

// should is what a member's block of a stripe should be.
func (v *Volume) should(stripe, member int) ([]byte, api.Errno) {
	return v.together(stripe, func(m int) bool { return m != member })
}

// together puts together the blocks of a stripe that a function takes: ErrIo, if one of them is lacking.
func (v *Volume) together(stripe int, takes func(member int) bool) ([]byte, api.Errno) {
	sum := make([]byte, api.Sector)
	for member := range v.said.Members {
		if !takes(member) {
			continue
		}
		b, e := v.look(stripe, member)
		switch {
		case isLacking(e):
			return nil, api.ErrIo
		case e != api.OK:
			return nil, e
		}
		sum = xor(sum, b)
	}
	return sum, api.OK
}

// xor leaves out the error of octets.Xor, since all blocks have as many bytes.
func xor(a, b []byte) []byte {
	sum, _ := octets.Xor(a, b)
	return sum
}

// Write lets a block have bytes.
func (v *Volume) Write(block int, b []byte) api.Errno {
	if e := v.refusal(v.has(block) && len(b) == api.Sector); e != api.OK {
		return e
	}
	spot, e := lay.Map(v.said.Members, block)
	if e != api.OK {
		return e
	}
	parity, e := lay.Parity(v.said.Members, spot.Stripe)
	if e != api.OK {
		return e
	}
	// A record tells of one block of its stripe: the one ahead must not wait any more.
	if _, open := v.open[spot.Stripe]; open {
		if e := v.Flush(); e != api.OK {
			return e
		}
	}
	noData, noParity := v.diskOf(spot.Stripe, spot.Member).Dead(), v.diskOf(spot.Stripe, parity).Dead()
	switch {
	case noData && noParity:
		return api.ErrIo
	case noParity:
		return v.change(spot.Stripe, spot.Member, b)
	case noData:
		return v.writeParity(spot, parity, b)
	}
	return v.writeBoth(spot, parity, b)
}

// change sets a block that is to be sure behind the next flush.
func (v *Volume) change(stripe, member int, b []byte) api.Errno {
	v.open[stripe] = struct{}{}
	return v.set(stripe, member, b)
}

// writeParity lets the parity alone tell what a block has whose disk is dead.
func (v *Volume) writeParity(spot api.Spot, parity int, b []byte) api.Errno {
	sum, e := v.otherData(spot, parity)
	if e != api.OK {
		return e
	}
	return v.change(spot.Stripe, parity, xor(sum, b))
}

func (v *Volume) otherData(spot api.Spot, parity int) ([]byte, api.Errno) {
	return v.together(spot.Stripe, func(m int) bool { return m != spot.Member && m != parity })
}

// writeBoth writes a block and the parity, when it is sure in a record what the stripe has without that block.
func (v *Volume) writeBoth(spot api.Spot, parity int, b []byte) api.Errno {
	part, e := v.part(spot, parity)
	if e != api.OK {
		return e
	}
	r := api.Record{Stripe: spot.Stripe, Place: spot.Place, Part: part}
	if e := v.record(v.numberOf(spot.Stripe, parity), r); e != api.OK {
		return e
	}
	if e := v.change(spot.Stripe, spot.Member, b); e != api.OK {
		return e
	}
	return v.change(spot.Stripe, parity, xor(part, b))
}

// part is what a stripe has without a block and the parity.
func (v *Volume) part(spot api.Spot, parity int) ([]byte, api.Errno) {
	part, e := v.otherData(spot, parity)
	if e != api.ErrIo {
		return part, e
	}
	return v.together(spot.Stripe, func(m int) bool { return m == spot.Member || m == parity })
}

// record puts a record into a disk's log, surely.
func (v *Volume) record(number int, r api.Record) api.Errno {
	at, free := v.freeSlot(number)
	if !free {
		if e := v.Flush(); e != api.OK {
			return e
		}
	}
	v.used[at] = struct{}{}
	d := v.disks[number]
	if e := d.log.Put(at.number, r); e != api.OK {
		return e
	}
	return d.Flush()
}

// freeSlot is the first one of a disk that is not used; false: the first one, which is so behind a flush.
func (v *Volume) freeSlot(number int) (slot, bool) {
	for k := range v.said.Logs {
		if _, used := v.used[slot{number, k}]; !used {
			return slot{number, k}, true
		}
	}
	return slot{number, 0}, false
}

// Flush makes all that was written sure.
func (v *Volume) Flush() api.Errno {
	if v == nil {
		return api.ErrClosed
	}
	if e := v.flushDisks(); e != api.OK {
		return e
	}
	if len(v.used) > 0 {
		if e := v.clearSlots(); e != api.OK {
			return e
		}
		if e := v.flushDisks(); e != api.OK {
			return e
		}
	}
	clear(v.open)
	clear(v.used)
	return api.OK
}

func (v *Volume) flushDisks() api.Errno {
	for _, d := range v.disks {
		if e := butDead(d.Flush()); e != api.OK {
			return e
		}
	}
	return api.OK
}

// clearSlots goes disk by disk and slot by slot, as the order of the map would be a matter of chance.
func (v *Volume) clearSlots() api.Errno {
	for number, d := range v.disks {
		for k := range v.said.Logs {
			if _, used := v.used[slot{number, k}]; !used {
				continue
			}
			if e := butDead(d.log.Clear(k)); e != api.OK {
				return e
			}
		}
	}
	return api.OK
}
