package raid

import (
	"ashlar/api"
	"ashlar/lay"
)

// Mend makes what is bad of a stripe good.
func (v *Volume) Mend(stripe int) (int, api.Errno) {
	if e := v.ready(stripe); e != api.OK {
		return 0, e
	}
	var bad, dead []int
	sum := make([]byte, api.Sector)
	for member := range v.said.Members {
		b, e := v.look(stripe, member)
		switch e {
		case api.OK:
			sum = xor(sum, b)
		case api.ErrBad:
			bad = append(bad, member)
		case api.ErrDead:
			dead = append(dead, member)
		default:
			return 0, e
		}
	}
	switch {
	case len(bad) > 0: // if another one is lacking, too, it can't be told what it should be
		return v.restore(stripe, bad[0])
	case len(dead) > 0 || isNoughts(sum):
		return 0, api.OK
	}
	parity, e := lay.Parity(v.said.Members, stripe)
	if e != api.OK {
		return 0, e
	}
	return v.restore(stripe, parity)
}

// ready refuses a stripe that there is not, and lets nothing wait in any stripe.
func (v *Volume) ready(stripe int) api.Errno {
	switch {
	case v == nil:
		return api.ErrClosed
	case !v.hasStripe(stripe):
		return api.ErrArg
	}
	return v.settle()
}

func (v *Volume) hasStripe(stripe int) bool {
	return stripe >= 0 && stripe < v.said.Stripes
}

func (v *Volume) settle() api.Errno {
	if len(v.open) == 0 && len(v.used) == 0 {
		return api.OK
	}
	return v.Flush()
}

// restore makes a member's block of a stripe what it should be, surely.
func (v *Volume) restore(stripe, member int) (int, api.Errno) {
	if e := v.restoreOn(v.diskOf(stripe, member), stripe, member); e != api.OK {
		return 0, e
	}
	return 1, api.OK
}

func (v *Volume) restoreOn(d disk, stripe, member int) api.Errno {
	b, e := v.should(stripe, member)
	if e != api.OK {
		return e
	}
	return d.writeSure(v.base+stripe, b)
}

// Whole tells whether all blocks of a stripe are good, and go with their parity.
func (v *Volume) Whole(stripe int) (bool, api.Errno) {
	switch {
	case v == nil:
		return false, api.ErrClosed
	case !v.hasStripe(stripe):
		return false, api.ErrArg
	}
	sum, e := v.together(stripe, func(int) bool { return true })
	switch e {
	case api.OK:
		return isNoughts(sum), api.OK
	case api.ErrIo:
		return false, api.OK
	}
	return false, e
}

// Fill gives the spare its block of a stripe, surely.
func (v *Volume) Fill(stripe int) api.Errno {
	if e := v.ready(stripe); e != api.OK {
		return e
	}
	if v.said.Spare == noSpare {
		return api.ErrState
	}
	return v.restoreOn(v.disks[v.said.Members], stripe, v.said.Spare)
}

// Save says on all disks how far the spare is, and the scrubber.
func (v *Volume) Save(spare, mark, cursor int) api.Errno {
	if v == nil {
		return api.ErrClosed
	}
	said := v.said
	said.Gen++
	said.Spare, said.Mark, said.Cursor = spare, mark, cursor
	if !v.fits(said) {
		return api.ErrArg
	}
	if e := v.settle(); e != api.OK {
		return e
	}
	if e := v.say(said); e != api.OK {
		return e
	}
	v.said = said
	return api.OK
}
