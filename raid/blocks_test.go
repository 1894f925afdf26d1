package raid

import (
	"bytes"
	"slices"
	"testing"

	"ashlar/api"
	"ashlar/lay"
	"ashlar/ppl"
	"ashlar/shelf"
	"ashlar/sums"
)

// spotOf is where a block lies, and who has its stripe's parity.
func spotOf(t *testing.T, x shape, n int) (api.Spot, int) {
	t.Helper()
	spot, e := lay.Map(x.members, n)
	done(t, e)
	p, e := lay.Parity(x.members, spot.Stripe)
	done(t, e)
	return spot, p
}

func TestBlocksThatThereAreNot(t *testing.T) { // P8.3, P8.4
	for _, x := range smalls() {
		s, v := x.full(t)
		count := s.Count()
		for _, n := range append(edges(), x.blocks(), x.blocks()+1) {
			if n >= 0 && n < x.blocks() {
				continue
			}
			refuses(t, v, n, api.ErrArg)
			is(t, "Write", v.Write(n, text(1)), api.ErrArg)
			is(t, "Write of nil", v.Write(n, nil), api.ErrArg)
		}
		if s.Count() != count {
			t.Error("what is refused reads, or writes")
		}
	}
}

func TestWriteAsksForABlocksBytes(t *testing.T) { // P8.4, R2, R4
	s, v := shape{3, 2, 1, false}.full(t)
	done(t, v.Write(1, text(9)))
	count := s.Count()
	long := bytes.Repeat(text(3), 3)
	for _, b := range [][]byte{nil, {}, long[:1], long[:127], long[:127:127], long[:129], long[:256], long} {
		for n := range 4 {
			is(t, "Write", v.Write(n, b), api.ErrArg)
		}
	}
	if s.Count() != count {
		t.Error("what is refused reads, or writes")
	}
	done(t, v.Write(0, long[:128]))
	done(t, v.Write(2, long[:128:128]))
	hasAll(t, v, map[int][]byte{0: text(3), 1: text(9), 2: text(3)})
}

func TestErrorsInTheirOrder(t *testing.T) { // P8.3, P8.4, P8.6, R2
	for dead := range 5 {
		s, v := shape{3, 2, 1, true}.full(t)
		for disk := range min(dead, 4) {
			done(t, s.Kill(disk))
		}
		s.Stop(0)
		for n := range 4 {
			refuses(t, v, n, api.ErrOff)
			is(t, "Write", v.Write(n, text(1)), api.ErrOff)
			is(t, "Write of nil", v.Write(n, nil), api.ErrArg)
		}
		refuses(t, v, 4, api.ErrArg)
		is(t, "Write", v.Write(-1, text(1)), api.ErrArg)
		is(t, "Flush", v.Flush(), api.ErrOff)
		for stripe := range 2 {
			n, e := v.Mend(stripe)
			is(t, "Mend", e, api.ErrOff)
			w, e := v.Whole(stripe)
			is(t, "Whole", e, api.ErrOff)
			if n != 0 || w {
				t.Errorf("%d, %v beside an error", n, w)
			}
			is(t, "Fill", v.Fill(stripe), api.ErrState)
		}
		is(t, "Save", v.Save(-1, 0, 1), api.ErrOff)
		is(t, "Save", v.Save(-1, 0, 2), api.ErrArg)
		if v.said.Cursor != 0 || v.said.Gen != 1 {
			t.Error("what was refused was done")
		}
	}
}

func TestReadTellsWhatWasWrittenLast(t *testing.T) { // P8.3, P8.7
	for _, x := range smalls() {
		_, v := x.create(t)
		for n := range x.blocks() {
			has(t, v, n, noughts())
			done(t, v.Write(n, text(n)))
			has(t, v, n, text(n))
			done(t, v.Write(n, text(n+1)))
			has(t, v, n, text(n+1))
			if n > 0 {
				has(t, v, n-1, text(n))
			}
		}
		done(t, v.Flush())
		for n := range x.blocks() {
			has(t, v, n, text(n+1))
		}
		allWhole(t, v)
	}
}

// A trouble is what is wrong with a block's disk, or with the block.
type trouble int

const (
	good trouble = iota
	bad
	dead
)

// strike lets a member have trouble with a stripe.
func strike(t *testing.T, s *shelf.Shelf, x shape, stripe, member int, what trouble) {
	t.Helper()
	switch what {
	case bad:
		turn(t, s, member, x.base()+stripe)
	case dead:
		done(t, s.Kill(member))
	}
}

// troubles goes over all that 4 members may have.
func troubles(then func(of [4]trouble)) {
	for which := range 81 {
		then([4]trouble{trouble(which % 3), trouble(which / 3 % 3), trouble(which / 9 % 3), trouble(which / 27)})
	}
}

// count is how many members have some trouble, but for one.
func count(of [4]trouble, but int, what ...trouble) int {
	n := 0
	for member, is := range of {
		if member != but && slices.Contains(what, is) {
			n++
		}
	}
	return n
}

func TestReadWithAnyTrouble(t *testing.T) { // P8.3, P8.9, P6 of the whole
	x := shape{4, 5, 1, false}
	troubles(func(of [4]trouble) {
		for n := 3; n < 6; n++ {
			s, v := x.full(t)
			spot, _ := spotOf(t, x, n)
			for member, what := range of {
				strike(t, s, x, 1, member, what)
			}
			reads := s.Count()
			told := of[spot.Member] == good || count(of, spot.Member, bad, dead) == 0
			if !told {
				refuses(t, v, n, api.ErrIo)
			} else {
				has(t, v, n, text(1000+n))
				if of[spot.Member] == good && s.Count()-reads != 2 {
					t.Error("of a block that is not lacking others are read")
				}
			}
			if of[spot.Member] != dead {
				isGood(t, s, spot.Member, x.base()+1, told)
			}
			for member, what := range of {
				if member != spot.Member && what != dead {
					isGood(t, s, member, x.base()+1, what == good)
				}
			}
			if len(v.open)+len(v.used) != 0 {
				t.Error("a read opens a stripe, or uses a slot")
			}
			for far := range 3 { // another stripe has no bad blocks
				far += 6
				spot, _ := spotOf(t, x, far)
				if of[spot.Member] != dead || count(of, spot.Member, dead) == 0 {
					has(t, v, far, text(1000+far))
				} else {
					refuses(t, v, far, api.ErrIo)
				}
			}
		}
	})
}

func TestWriteWithAnyTrouble(t *testing.T) { // P8.4
	x := shape{4, 5, 1, false}
	troubles(func(of [4]trouble) {
		for n := 3; n < 6; n++ {
			s, v := x.full(t)
			spot, p := spotOf(t, x, n)
			for member, what := range of {
				strike(t, s, x, 1, member, what)
			}
			d := spot.Member
			others := 0 // of the stripe's other data that are lacking
			for member, what := range of {
				if member != d && member != p && what != good {
					others++
				}
			}
			var may, record bool
			switch {
			case of[d] == dead && of[p] == dead:
			case of[p] == dead:
				may = true
			case of[d] == dead:
				may = others == 0
			default:
				may = others == 0 || of[d] == good && of[p] == good
				record = may
			}
			want := api.OK
			if !may {
				want = api.ErrIo
			}
			before := waits(s)
			is(t, "Write", v.Write(n, text(777)), want)
			if (len(v.open) != 0) != may || (len(v.used) != 0) != record {
				t.Errorf("%v: Write of the member %d: the open ones %v, the used ones %v", of, d, v.open, v.used)
			}
			if !may && waits(s) != before {
				t.Errorf("%v: a Write that was refused wrote", of)
			}
			tellsBehindAWrite(t, s, v, x, of, n, may)
			done(t, v.Flush())
			f := s.Fork()
			f.Crash(nil)
			if w, e := Open(f); e == api.OK {
				tellsBehindAWrite(t, f, w, x, of, n, may)
			} else if s.Waits(d) >= 0 && count(of, -1, dead) < 4 {
				t.Errorf("%v: Open: %d", of, e)
			}
		}
	})
}

// tellsBehindAWrite fails if a read of the stripe 1 tells other data, or an error where it can be told.
func tellsBehindAWrite(t *testing.T, s *shelf.Shelf, v *Volume, x shape, of [4]trouble, n int, written bool) {
	t.Helper()
	spot, p := spotOf(t, x, n)
	if written && of[spot.Member] == bad {
		of[spot.Member] = good
	}
	if written && of[p] == bad {
		of[p] = good
	}
	for m := 3; m < 6; m++ {
		want := text(1000 + m)
		if m == n && written {
			want = text(777)
		}
		spot, _ := spotOf(t, x, m)
		if of[spot.Member] == good || count(of, spot.Member, bad, dead) == 0 {
			has(t, v, m, want)
			if of[spot.Member] == bad {
				of[spot.Member] = good
			}
		} else {
			refuses(t, v, m, api.ErrIo)
		}
	}
	if count(of, -1, bad, dead) == 0 {
		whole(t, v, 1, true)
	}
}

func TestAWriteStepByStep(t *testing.T) { // P8.4: the record is sure ahead of the block, which is written ahead of the parity
	x := shape{4, 5, 2, false}
	n := 4 // the place 1 of the stripe 1: on the disk 0, the parity on the disk 2
	part := together(text(1003), text(1005))
	head, e := ppl.Encode(api.Record{Stripe: 1, Place: 1, Part: part})
	done(t, e)
	old := [4][]byte{noughts(), noughts(), text(1004), together(part, text(1004))}
	fresh := [4][]byte{part, head, text(777), together(part, text(777))}
	for stop := range 14 {
		s, v := x.full(t)
		was := [4][]byte{raw(t, s, 2, 3), noughts(), old[2], old[3]}
		s.Stop(stop)
		e := v.Write(n, text(777))
		want := api.ErrOff
		if stop >= 13 {
			want = api.OK
		}
		is(t, "Write", e, want)
		f := s.Fork()
		f.Crash([][]int{{0, 1, 2}, {}, {0, 1, 2}, {}})
		s.Crash(nil)
		// The part's sums, a flush, the part; the head's, with whose flush that is sure; a flush; so the block and the parity.
		for k, c := range []struct{ disk, block, kept, sure int }{{2, 3, 3, 5}, {2, 2, 6, 7}, {0, 7, 10, 99}, {2, 7, 13, 99}} {
			now, lost := was[k], was[k]
			if stop >= c.kept {
				now = fresh[k]
			}
			if stop >= c.sure {
				lost = fresh[k]
			}
			if b := raw(t, f, c.disk, c.block); !bytes.Equal(b, now) {
				t.Errorf("behind %d, all kept: the disk %d's block %d is %x", stop, c.disk, c.block, b[:8])
			}
			if b := raw(t, s, c.disk, c.block); !bytes.Equal(b, lost) {
				t.Errorf("behind %d, none kept: the disk %d's block %d is %x", stop, c.disk, c.block, b[:8])
			}
		}
	}
}

func TestTheRecordTellsWhatTheOthersAre(t *testing.T) { // P8.4
	for _, x := range smalls() {
		first, _ := x.full(t)
		for n := range x.blocks() {
			s := first.Fork()
			v := again(t, s)
			spot, p := spotOf(t, x, n)
			done(t, v.Write(n, text(777)))
			part := noughts()
			for place := range x.members - 1 {
				if place != spot.Place {
					part = together(part, text(1000+spot.Stripe*(x.members-1)+place))
				}
			}
			for disk := range x.disks() {
				d, e := sums.Open(s, disk)
				done(t, e)
				l, e := ppl.Open(d, x.logs)
				done(t, e)
				all := l.All()
				if disk != p && len(all) != 0 || disk == p && (len(all) != 1 || all[0].Stripe != spot.Stripe ||
					all[0].Place != spot.Place || !bytes.Equal(all[0].Part, part)) {
					t.Errorf("%+v: behind a Write of %d the disk %d has the records %v", x, n, disk, all)
				}
			}
			if !bytes.Equal(raw(t, s, p, x.base()+spot.Stripe), together(part, text(777))) {
				t.Errorf("%+v: behind a Write of %d the parity is another one", x, n)
			}
			done(t, v.Flush())
			noSlots(t, "a Flush", s, x)
		}
	}
}

func TestOneDeadDiskNeedsNoRecord(t *testing.T) { // P8.4
	x := shape{4, 5, 2, false}
	for n := range x.blocks() {
		spot, p := spotOf(t, x, n)
		for _, dead := range []int{spot.Member, p} {
			s, v := x.full(t)
			done(t, s.Kill(dead))
			reads := 2
			if dead == spot.Member {
				reads = 2*2 + 2 // both other blocks, and what Write itself reads
			}
			if n := spends(s, func() { done(t, v.Write(n, text(777))) }); n != reads+3 {
				t.Errorf("the disk %d dead: a Write took %d, not %d", dead, n, reads+3)
			}
			if waits(s) != 1 || len(v.used) != 0 || len(v.open) != 1 {
				t.Errorf("%d writes wait, %v is used, %v is open", waits(s), v.used, v.open)
			}
			hasAll(t, v, map[int][]byte{n: text(777)})
			done(t, v.Flush())
			if len(v.open) != 0 {
				t.Error("a stripe is open behind a Flush")
			}
			s.Crash(nil)
			hasAll(t, again(t, s), map[int][]byte{n: text(777)})
		}
	}
}

func TestAnOpenStripeIsFlushedFirst(t *testing.T) { // P8.4
	x := shape{4, 5, 8, false}
	for dead := -1; dead < 4; dead++ {
		for _, again := range []int{3, 4, 5} {
			s, v := x.full(t)
			if dead >= 0 {
				done(t, s.Kill(dead))
			}
			done(t, v.Write(9, text(9)))
			done(t, v.Write(3, text(776)))
			done(t, v.Write(6, text(6)))
			done(t, v.Write(again, text(777)))
			if len(v.open) != 1 {
				t.Errorf("%v is open: the stripe 1 alone is", v.open)
			}
			s.Crash(nil)
			w, e := Open(s)
			done(t, e)
			b, e := w.Read(3)
			done(t, e)
			if !bytes.Equal(b, text(776)) && (again != 3 || !bytes.Equal(b, text(777))) {
				t.Errorf("the member %d dead: the first write is not sure when the second one waits", dead)
			}
			has(t, w, 9, text(9))
			has(t, w, 6, text(6))
		}
	}
}

func TestWritesOfOtherStripesFlushNothing(t *testing.T) { // P8.4
	x := shape{3, 6, 2, false}
	s, v := x.full(t)
	for stripe := range 6 {
		done(t, v.Write(2*stripe, text(stripe)))
		if len(v.open) != stripe+1 || len(v.used) != stripe+1 {
			t.Errorf("behind %d: %v is open, %v is used", stripe+1, v.open, v.used)
		}
	}
	for disk := range 3 {
		for k := range 2 {
			if bytes.Equal(raw(t, s, disk, 2+2*k), noughts()) {
				t.Errorf("the disk %d's slot %d is not used", disk, k)
			}
		}
	}
}

func TestALogThatIsFullIsFlushed(t *testing.T) { // P8.4
	for logs := 1; logs <= 8; logs++ {
		x := shape{3, 30, logs, false}
		s, v := x.full(t)
		for k := range 10 { // the stripes 0, 3, 6 .. have their parity on the disk 2
			done(t, v.Write(6*k, text(k)))
			used := k%logs + 1
			if len(v.used) != used || len(v.open) != used {
				t.Errorf("of %d slots, behind %d writes: %v is used, %v is open", logs, k+1, v.used, v.open)
			}
			for slot := range logs {
				r, e := slotOf(t, s, 2, logs, slot)
				if slot >= used && e != api.ErrNone || slot < used && (e != api.OK || r.Stripe != 3*(k-used+1+slot)) {
					t.Errorf("of %d slots, behind %d writes, the slot %d: %d, %d", logs, k+1, slot, r.Stripe, e)
				}
			}
		}
		done(t, v.Write(2, text(44))) // another disk's log has room
		if len(v.used) != 9%logs+2 {
			t.Errorf("of %d slots: %v", logs, v.used)
		}
	}
}

// slotOf is what a disk's slot has.
func slotOf(t *testing.T, s *shelf.Shelf, disk, logs, slot int) (api.Record, api.Errno) {
	t.Helper()
	d, e := sums.Open(s, disk)
	done(t, e)
	l, e := ppl.Open(d, logs)
	done(t, e)
	return l.Get(slot)
}

func TestFlushMakesAllSureThenClearsTheSlots(t *testing.T) { // P8.4
	x := shape{4, 6, 2, true}
	s, v := x.full(t)
	if n := spends(s, func() { done(t, v.Flush()) }); n != 5 {
		t.Errorf("a Flush of nothing took %d: one of each disk", n)
	}
	done(t, v.Write(0, text(1)))
	done(t, v.Write(4, text(2)))
	done(t, v.Write(12, text(3)))
	if n := spends(s, func() { done(t, v.Flush()) }); n != 5+3*5+5 {
		t.Errorf("a Flush with three slots took %d", n)
	}
	if waits(s) != 0 || len(v.open)+len(v.used) != 0 {
		t.Error("something waits behind a Flush")
	}
	noSlots(t, "a Flush", s, x)
	if n := spends(s, func() { done(t, v.Flush()) }); n != 5 {
		t.Errorf("one more Flush took %d", n)
	}
	s.Crash(nil)
	hasAll(t, again(t, s), map[int][]byte{0: text(1), 4: text(2), 12: text(3)})
}

func TestFlushStepByStep(t *testing.T) { // P8.4: what was written is sure ahead of any slot that is cleared
	x := shape{3, 3, 1, true}
	for stop := range 4 + 3*3 + 4 + 1 {
		s, v := x.full(t)
		for stripe := range 3 {
			done(t, v.Write(2*stripe, text(stripe)))
		}
		s.Stop(stop)
		want := api.ErrOff
		if stop == 17 {
			want = api.OK
		}
		is(t, "Flush", v.Flush(), want)
		if len(v.open) != 0 != (stop < 17) {
			t.Errorf("behind %d: %v is open", stop, v.open)
		}
		s.Crash([][]int{{0, 1, 2, 3}, {0, 1, 2, 3}, {0, 1, 2, 3}, {0, 1, 2, 3}})
		for disk := range 3 {
			_, e := slotOf(t, s, disk, 1, 0)
			// The disk's slot is cleared by the sums, a flush, and the bytes, behind those of the disks ahead.
			if cleared := stop >= 4+3*disk+3; cleared != (e == api.ErrNone) {
				t.Errorf("behind %d the disk %d's slot: %d", stop, disk, e)
			}
		}
	}
}

func TestFlushWithDeadDisks(t *testing.T) { // P8.4
	x := shape{3, 3, 1, true}
	for which := range 16 {
		s, v := x.full(t)
		for stripe := range 3 {
			done(t, v.Write(2*stripe, text(stripe)))
		}
		for disk := range 4 {
			if which>>disk&1 == 1 {
				done(t, s.Kill(disk))
			}
		}
		done(t, v.Flush())
		if len(v.open)+len(v.used) != 0 {
			t.Error("something is open, or used, behind a Flush")
		}
		for disk := range 4 {
			if !s.Dead(disk) && s.Waits(disk) != 0 {
				t.Error("something waits behind a Flush")
			}
		}
		noSlots(t, "a Flush", s, x)
		if which == 0 || which == 8 {
			allWhole(t, v)
		}
	}
}

func TestAMemberDiesBetweenAWriteAndItsFlush(t *testing.T) { // P8.4, P8.7
	x := shape{4, 5, 1, false}
	for dead := range 4 {
		for n := range x.blocks() {
			for m := range x.blocks() {
				s, v := x.full(t)
				done(t, v.Write(n, text(776)))
				done(t, s.Kill(dead))
				done(t, v.Write(m, text(777)))
				want := map[int][]byte{n: text(776), m: text(777)}
				if m == n {
					want[n] = text(777)
				}
				hasAll(t, v, want)
				done(t, v.Flush())
				s.Crash(nil)
				hasAll(t, again(t, s), want)
			}
		}
	}
}

func TestTheSpareHasItsStripes(t *testing.T) { // P8.3, P8.4: those below Mark
	x := shape{4, 6, 1, true}
	for member := range 4 {
		for mark := range 7 {
			for _, lost := range []int{member, 4} {
				s, v := x.full(t)
				done(t, v.Save(member, 0, 0))
				for stripe := range mark {
					done(t, v.Fill(stripe))
				}
				done(t, v.Save(member, mark, 0))
				hasAll(t, v, nil)
				allWhole(t, v)
				if lost == member {
					done(t, s.Kill(member)) // while it lives its blocks above Mark are its own
				}
				want := map[int][]byte{}
				for n := range x.blocks() {
					spot, p := spotOf(t, x, n)
					want[n] = text(n)
					done(t, v.Write(n, text(n)))
					on := p
					if p == member && spot.Stripe < mark {
						on = 4
					}
					for disk := range 5 {
						if s.Dead(disk) {
							continue
						}
						_, e := slotOf(t, s, disk, 1, 0)
						record := disk == on && !s.Dead(member)
						if s.Dead(member) {
							record = disk == on && (member != spot.Member || spot.Stripe < mark)
						}
						if record != (e == api.OK) {
							t.Errorf("the spare has %d of %d's: behind a Write of %d the disk %d's slot: %d", mark, member, n, disk, e)
						}
					}
					done(t, v.Flush())
				}
				hasAll(t, v, want)
				s.Crash(nil)
				w := again(t, s)
				hasAll(t, w, want)
				for stripe := range 6 {
					whole(t, w, stripe, !s.Dead(member) || stripe < mark)
				}
				if lost == 4 {
					done(t, s.Kill(4))
					hasAll(t, w, want)
				}
			}
		}
	}
}

func TestAnyOneMayDieBehindAFilledSpare(t *testing.T) { // P8.3, P8.7
	x := shape{4, 6, 1, true}
	for first := range 4 {
		for second := range 5 {
			s, v := x.full(t)
			done(t, s.Kill(first))
			done(t, v.Save(first, 0, 0))
			for stripe := range 6 {
				done(t, v.Fill(stripe))
				done(t, v.Save(first, stripe+1, 0))
			}
			allWhole(t, v)
			done(t, s.Kill(second))
			hasAll(t, v, nil)
			s.Crash(nil)
			hasAll(t, again(t, s), nil)
		}
	}
}

func TestABadBlockOnTheSpareIsRead(t *testing.T) { // P8.3, P8.9
	x := shape{4, 6, 1, true}
	s, v := x.full(t)
	done(t, s.Kill(1))
	done(t, v.Save(1, 0, 0))
	for stripe := range 6 {
		done(t, v.Fill(stripe))
	}
	done(t, v.Save(1, 6, 0))
	for stripe := range 6 {
		turn(t, s, 4, x.base()+stripe)
	}
	hasAll(t, v, nil)
	for stripe := range 6 {
		n, data, e := lay.Back(4, stripe, 1)
		done(t, e)
		isGood(t, s, 4, x.base()+stripe, data)
		whole(t, v, stripe, data)
		if data {
			has(t, v, n, text(1000+n))
		}
	}
}

func TestABadBlockIsGoodBehindARead(t *testing.T) { // P8.9
	for _, x := range smalls() {
		first, _ := x.full(t)
		for n := range x.blocks() {
			for _, how := range []func(*testing.T, *shelf.Shelf, int, int){turn, turnSums} {
				s := first.Fork()
				v := again(t, s)
				spot, _ := spotOf(t, x, n)
				how(t, s, spot.Member, x.base()+spot.Stripe)
				isGood(t, s, spot.Member, x.base()+spot.Stripe, false)
				has(t, v, n, text(1000+n))
				isGood(t, s, spot.Member, x.base()+spot.Stripe, true)
				whole(t, v, spot.Stripe, true)
				if s.Waits(spot.Member) != 1 {
					t.Error("what a read mends waits")
				}
				done(t, v.Flush())
				s.Crash(nil)
				isGood(t, s, spot.Member, x.base()+spot.Stripe, true)
				has(t, again(t, s), n, text(1000+n))
			}
		}
	}
}

func TestAReadThatCannotMendIsRefused(t *testing.T) { // P8.3: what is refused is told
	x := shape{3, 2, 1, false}
	for stop := range 4 {
		s, v := x.full(t)
		turn(t, s, 0, x.base()) // the block 0
		s.Stop(stop)
		if stop == 3 {
			has(t, v, 0, text(1000))
		} else {
			refuses(t, v, 0, api.ErrOff)
		}
		s.Crash(nil)
		has(t, again(t, s), 0, text(1000))
	}
}

func TestABadBlockIsReadWhileItsStripeIsOpen(t *testing.T) { // P8.7, P8.8, P8.9
	x := shape{4, 2, 1, false}
	for n := range 3 {
		for m := range 3 {
			if n == m {
				continue
			}
			s, v := x.full(t)
			done(t, v.Write(n, text(777)))
			spot, _ := spotOf(t, x, m)
			turn(t, s, spot.Member, x.base())
			hasAll(t, v, map[int][]byte{n: text(777)})
			someCrashes(s, func(f *shelf.Shelf) {
				w := again(t, f)
				for k := range x.blocks() {
					b, e := w.Read(k)
					if e != api.OK || !bytes.Equal(b, text(1000+k)) && (k != n || !bytes.Equal(b, text(777))) {
						t.Errorf("Read(%d) = %x, %d", k, b[:min(4, len(b))], e)
					}
				}
				whole(t, w, 0, true)
			})
		}
	}
}

func TestTheBounds(t *testing.T) { // P8.10
	x := shape{16, 64, 8, true}
	s, v := x.full(t)
	most := 0
	for range 2 {
		for stripe := range 64 { // no more than 4 stripes have their parity on one disk: half of the slots
			most = max(most, spends(s, func() { done(t, v.Write(15*stripe, text(stripe))) }))
		}
		done(t, v.Flush())
	}
	x = shape{16, 200, 8, true}
	s, v = x.full(t)
	for stripe := range 128 { // all slots are used
		most = max(most, spends(s, func() { done(t, v.Write(15*stripe, text(stripe))) }))
	}
	if len(v.used) != 128 {
		t.Errorf("%d slots are used", len(v.used))
	}
	flush := spends(s, func() { done(t, v.Flush()) })
	for stripe := range 128 {
		done(t, v.Write(15*stripe, text(stripe)))
	}
	turn(t, s, 1, x.base()+128) // of the stripe 128 one of the data is bad, so the old block and the parity are read
	full := spends(s, func() { done(t, v.Write(15*128+4, text(1))) })
	if flush < 17+128*5+17 || full <= flush || most > 1200 || flush > 1200 || full > 1200 {
		t.Errorf("a Write took %d, one that flushes %d, a Flush %d", most, full, flush)
	}
	for n := range x.blocks() {
		spot, _ := spotOf(t, x, n)
		turn(t, s, spot.Member, x.base()+spot.Stripe)
		if k := spends(s, func() { v.Read(n) }); k > 64 {
			t.Errorf("a Read took %d", k)
		}
	}
}
