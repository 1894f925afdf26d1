package raid

import (
	"bytes"
	"testing"

	"ashlar/api"
	"ashlar/shelf"
	"ashlar/super"
)

// mends fails if Mend of a stripe answers otherwise.
func mends(t *testing.T, v *Volume, stripe, want int, wantError api.Errno) {
	t.Helper()
	if n, e := v.Mend(stripe); n != want || e != wantError {
		t.Errorf("Mend(%d) = %d, %d, not %d, %d", stripe, n, e, want, wantError)
	}
}

// isSame fails if a shelf has other sectors, or anything waits.
func isSame(t *testing.T, what string, s *shelf.Shelf, was [][][]byte) {
	t.Helper()
	if waits(s) != 0 {
		t.Errorf("%s: %d writes wait", what, waits(s))
	}
	for d := range was {
		for n := range was[d] {
			if b, e := s.Read(d, n); e == api.OK && !bytes.Equal(b, was[d][n]) {
				t.Errorf("%s: the disk %d's sector %d changed", what, d, n)
			}
		}
	}
}

func TestStripesThatThereAreNot(t *testing.T) { // P8.6
	for _, x := range smalls() {
		s, v := x.full(t)
		done(t, v.Write(0, text(1)))
		count, left := s.Count(), waits(s)
		for _, stripe := range append(edges(), x.stripes, x.stripes+1) {
			if stripe >= 0 && stripe < x.stripes {
				continue
			}
			mends(t, v, stripe, 0, api.ErrArg)
			is(t, "Fill", v.Fill(stripe), api.ErrArg)
			if w, e := v.Whole(stripe); w || e != api.ErrArg {
				t.Errorf("Whole(%d) = %v, %d", stripe, w, e)
			}
		}
		if s.Count() != count || waits(s) != left {
			t.Error("what is refused reads, or writes")
		}
		s.Stop(0)
		mends(t, v, x.stripes, 0, api.ErrArg)
		is(t, "Fill", v.Fill(-1), api.ErrArg)
	}
}

func TestMendWithAnyTrouble(t *testing.T) { // P8.6
	x := shape{4, 5, 1, false}
	for stripe := range 5 {
		troubles(func(of [4]trouble) {
			s, v := x.full(t)
			was := sectorsOf(t, s)
			for member, what := range of {
				strike(t, s, x, stripe, member, what)
			}
			bads, deads := count(of, -1, bad), count(of, -1, dead)
			hurt := s.Fork()
			switch {
			case bads >= 2 || bads == 1 && deads >= 1:
				mends(t, v, stripe, 0, api.ErrIo)
				for member, what := range of {
					if what != dead {
						isGood(t, s, member, x.base()+stripe, what == good)
					}
				}
			case bads == 1:
				mends(t, v, stripe, 1, api.OK)
				s.Crash(nil)
				for block := x.base(); block < x.need(); block++ { // as it was, but for the sums
					for disk := range 4 {
						if at := block + 1 + block/16; !bytes.Equal(was[disk][at], sectorsOf(t, s)[disk][at]) {
							t.Errorf("%v: the disk %d's block %d has other bytes", of, disk, block)
						}
					}
				}
				mends(t, again(t, s), stripe, 0, api.OK)
				hasAll(t, again(t, s), nil)
			default:
				mends(t, v, stripe, 0, api.OK)
				isSame(t, "Mend", s, was)
			}
			for other := range 5 {
				if other != stripe {
					mends(t, v, other, 0, api.OK)
				}
			}
			hurt.Stop(0)
			mends(t, again2(t, hurt), stripe, 0, api.ErrOff)
		})
	}
}

// again2 is an array whose power is off: it was opened ahead of that.
func again2(t *testing.T, s *shelf.Shelf) *Volume {
	t.Helper()
	v := over(s)
	v, e := v.as(shape{4, 5, 1, false}.saidOf(0))
	done(t, e)
	return v
}

func TestMendMakesTheParityGo(t *testing.T) { // P8.6
	for _, x := range smalls() {
		for stripe := range x.stripes {
			spot, p := spotOf(t, x, stripe*(x.members-1))
			for _, disk := range []int{p, spot.Member, (p + 2) % x.members} {
				s, _ := x.full(t)
				put(t, s, disk, x.base()+stripe, text(5555))
				v := again(t, s)
				whole(t, v, stripe, false)
				want := map[int][]byte{}
				for place := range x.members - 1 {
					if (p+1+place)%x.members == disk {
						want[stripe*(x.members-1)+place] = text(5555)
					}
				}
				hasAll(t, v, want) // what is good is not asked whether it goes with the parity
				mends(t, v, stripe, 1, api.OK)
				if waits(s) != 0 {
					t.Error("what was mended waits")
				}
				whole(t, v, stripe, true)
				mends(t, v, stripe, 0, api.OK)
				hasAll(t, v, want)
				sum := noughts()
				for member := range x.members {
					sum = together(sum, raw(t, s, member, x.base()+stripe))
				}
				if !bytes.Equal(sum, noughts()) {
					t.Errorf("%+v: together the stripe %d has %x", x, stripe, sum)
				}
				s.Crash(nil)
				hasAll(t, again(t, s), want)
			}
		}
	}
}

func TestMendLeavesAStripeAloneThatLacksADisk(t *testing.T) { // P8.6
	x := shape{4, 5, 1, false}
	for dead := range 4 {
		for other := range 4 {
			if other == dead {
				continue
			}
			s, v := x.full(t)
			put(t, s, other, x.base()+1, text(5555)) // no parity goes with it
			was := sectorsOf(t, s)
			done(t, s.Kill(dead))
			mends(t, v, 1, 0, api.OK)
			whole(t, v, 1, false)
			isSame(t, "Mend", s, was)
		}
	}
}

func TestMendFlushesFirstIfNeedBe(t *testing.T) { // P8.6
	x := shape{4, 5, 1, true}
	for _, stripe := range []int{0, 1} {
		s, v := x.full(t)
		if n := spends(s, func() { mends(t, v, stripe, 0, api.OK) }); n != 4*2 {
			t.Errorf("Mend of what is whole took %d", n)
		}
		done(t, v.Write(0, text(1)))
		mends(t, v, stripe, 0, api.OK)
		if waits(s) != 0 || len(v.open)+len(v.used) != 0 {
			t.Error("something waits behind Mend")
		}
		noSlots(t, "Mend", s, x)
		s.Crash(nil)
		has(t, again(t, s), 0, text(1))
	}
	s, v := x.full(t)
	_, p := spotOf(t, x, 0)
	done(t, s.Kill(p))
	done(t, v.Write(0, text(1))) // a stripe is open, and no slot is used
	mends(t, v, 1, 0, api.OK)
	if waits(s) != 0 || len(v.open) != 0 {
		t.Error("something waits behind Mend")
	}
	v.used[slot{0, 0}] = struct{}{} // a slot is used, and no stripe is open
	mends(t, v, 1, 0, api.OK)
	if len(v.used) != 0 {
		t.Error("a slot is used behind Mend")
	}
}

func TestMendOnTheSpare(t *testing.T) { // P8.6
	x := shape{4, 6, 1, true}
	for member := range 4 {
		s, v := x.full(t)
		done(t, s.Kill(member))
		done(t, v.Save(member, 0, 0))
		for stripe := range 3 {
			done(t, v.Fill(stripe))
		}
		done(t, v.Save(member, 3, 0))
		for stripe := range 6 {
			turn(t, s, 4, x.base()+stripe)
		}
		for stripe := range 6 {
			want := 0
			if stripe < 3 {
				want = 1
			}
			whole(t, v, stripe, false)
			mends(t, v, stripe, want, api.OK)
			whole(t, v, stripe, stripe < 3)
			isGood(t, s, 4, x.base()+stripe, stripe < 3)
		}
		hasAll(t, v, nil)
	}
}

func TestWhatMendIsRefusedIsTold(t *testing.T) { // P8.6, P8.8
	x := shape{4, 5, 1, false}
	for member := range 4 {
		for n := range 20 {
			s, v := x.full(t)
			turn(t, s, member, x.base()+1)
			if n >= 6 {
				done(t, v.Write(0, text(1)))
			}
			s.Stop(n)
			got, e := v.Mend(1)
			if e != api.OK && (e != api.ErrOff || got != 0) || e == api.OK && got != 1 {
				t.Errorf("the power off behind %d: Mend = %d, %d", n, got, e)
			}
			if n < 6 && (e == api.OK) != (n >= 4) { // the sums, a flush, the bytes, a flush
				t.Errorf("the power off behind %d: Mend = %d, %d", n, got, e)
			}
			someCrashes(s, func(f *shelf.Shelf) {
				w := again(t, f)
				if e == api.OK {
					isGood(t, f, member, x.base()+1, true)
				}
				for k := 1; k < x.blocks(); k++ {
					has(t, w, k, text(1000+k))
				}
			})
		}
	}
}

func TestWholeWithAnyTrouble(t *testing.T) { // P8.6
	x := shape{4, 5, 1, false}
	for stripe := range 5 {
		troubles(func(of [4]trouble) {
			s, v := x.full(t)
			for member, what := range of {
				strike(t, s, x, stripe, member, what)
			}
			whole(t, v, stripe, count(of, -1, bad, dead) == 0)
			for other := range 5 {
				if other != stripe {
					whole(t, v, other, count(of, -1, dead) == 0)
				}
			}
			if waits(s) != 0 {
				t.Error("Whole writes")
			}
		})
	}
}

func TestWholeFlushesNothing(t *testing.T) { // P8.6
	x := shape{4, 5, 1, false}
	s, v := x.full(t)
	done(t, v.Write(0, text(1)))
	left, open, used := waits(s), len(v.open), len(v.used)
	if n := spends(s, func() { allWhole(t, v) }); n != 5*4*2 {
		t.Errorf("Whole of five stripes took %d", n)
	}
	if waits(s) != left || len(v.open) != open || len(v.used) != used {
		t.Error("Whole flushes")
	}
	put(t, s, 1, x.base()+3, text(9))
	whole(t, v, 3, false)
	put(t, s, 1, x.base()+3, noughts())
	whole(t, v, 3, false)
}

func TestFillWithAnyTrouble(t *testing.T) { // P8.6
	x := shape{4, 5, 1, true}
	for stripe := range 5 {
		for member := range 4 {
			troubles(func(of [4]trouble) {
				s, v := x.full(t)
				want := raw(t, s, member, x.base()+stripe)
				done(t, v.Save(member, 0, 3))
				for m, what := range of {
					strike(t, s, x, stripe, m, what)
				}
				if count(of, member, bad, dead) > 0 {
					is(t, "Fill", v.Fill(stripe), api.ErrIo)
					want = noughts()
				} else {
					done(t, v.Fill(stripe))
				}
				if waits(s) != 0 {
					t.Error("what is filled waits")
				}
				for k := range 5 {
					b := noughts()
					if k == stripe {
						b = want
					}
					if !bytes.Equal(raw(t, s, 4, x.base()+k), b) {
						t.Errorf("%v: behind Fill(%d) for %d the spare has %x of the stripe %d", of, stripe, member, raw(t, s, 4, x.base()+k)[:8], k)
					}
				}
				isStatus(t, v, api.Status{Members: 4, Stripes: 5, Dead: deadOf(of), Spare: member, Cursor: 3})
			})
		}
	}
}

func deadOf(of [4]trouble) []int {
	var all []int
	for m, what := range of {
		if what == dead {
			all = append(all, m)
		}
	}
	return all
}

func TestFillReckonsAnew(t *testing.T) { // P8.6: it asks all but the member, also below Mark
	x := shape{4, 5, 1, true}
	s, v := x.full(t)
	want := raw(t, s, 1, x.base()+2)
	put(t, s, 1, x.base()+2, text(9)) // which is not asked
	for _, mark := range []int{0, 5} {
		done(t, v.Save(1, mark, 0))
		put(t, s, 4, x.base()+2, text(8))
		if n := spends(s, func() { done(t, v.Fill(2)) }); n != 3*2+2+2+2 {
			t.Errorf("Fill took %d", n)
		}
		if !bytes.Equal(raw(t, s, 4, x.base()+2), want) {
			t.Errorf("Mark %d: the spare has %x", mark, raw(t, s, 4, x.base()+2)[:8])
		}
	}
}

func TestFillIsRefused(t *testing.T) { // P8.6, R2
	x := shape{4, 5, 1, true}
	s, v := x.full(t)
	is(t, "Fill for nobody", v.Fill(0), api.ErrState)
	is(t, "Fill for nobody", v.Fill(5), api.ErrArg)
	_, w := shape{4, 5, 1, false}.full(t)
	is(t, "Fill without a spare", w.Fill(0), api.ErrState)
	done(t, v.Write(0, text(1)))
	is(t, "Fill for nobody", v.Fill(0), api.ErrState)
	if waits(s) != 0 || len(v.open)+len(v.used) != 0 {
		t.Error("a Flush comes first")
	}
	done(t, v.Write(0, text(1)))
	f := s.Fork()
	s.Stop(0)
	is(t, "Fill for nobody, without power", v.Fill(0), api.ErrOff) // from the Flush that comes first

	v = again(t, f)
	done(t, v.Save(2, 0, 0))
	done(t, f.Kill(4))
	is(t, "Fill of a dead spare", v.Fill(0), api.ErrDead)
	done(t, f.Kill(0))
	is(t, "Fill of a dead spare, with what can't be told", v.Fill(0), api.ErrIo)
	f.Stop(0)
	is(t, "Fill without power", v.Fill(0), api.ErrOff)
}

func TestFillFlushesFirstIfNeedBe(t *testing.T) { // P8.6
	x := shape{4, 5, 1, true}
	s, v := x.full(t)
	done(t, v.Save(2, 0, 0))
	done(t, v.Write(3, text(1)))
	done(t, v.Fill(1))
	if waits(s) != 0 || len(v.open)+len(v.used) != 0 {
		t.Error("something waits behind Fill")
	}
	noSlots(t, "Fill", s, x)
	s.Crash(nil)
	has(t, again(t, s), 3, text(1))
}

func TestSaveTakesAndRefusesAtEachEdge(t *testing.T) { // P8.6
	for _, x := range []shape{{4, 5, 1, true}, {4, 5, 1, false}} {
		s, v := x.full(t)
		done(t, v.Save(-1, 0, 2))
		gen := 2
		for _, c := range []struct{ at, from int }{{0, 0}, {1, 0}, {2, 0}, {0, 1}, {1, 1}, {2, 1}} {
			for _, n := range edges() {
				now := [3]int{-1 + 2*c.from, 3 * c.from, 4}
				now[c.at] = n
				may := now[0] >= -1 && now[0] <= 3 && now[1] >= 0 && now[1] <= 5 && now[2] >= 0 && now[2] <= 4
				may = may && (now[0] != -1 || now[1] == 0) && (x.spare || now[0] == -1)
				left, was := s.Count(), v.Status()
				e := v.Save(now[0], now[1], now[2])
				if !may {
					is(t, "Save", e, api.ErrArg)
					if !same(v.Status(), was) || s.Count() != left {
						t.Errorf("Save(%v) was refused, and changed something", now)
					}
					continue
				}
				is(t, "Save", e, api.OK)
				gen++
				isStatus(t, v, api.Status{Members: 4, Stripes: 5, Spare: now[0], Mark: now[1], Cursor: now[2]})
				said := x.saidOf(0)
				said.Gen, said.Spare, said.Mark, said.Cursor = gen, now[0], now[1], now[2]
				finds(t, "behind Save", s.Fork(), said)
			}
		}
	}
}

func TestSaveSaysTheNextGeneration(t *testing.T) { // P8.6
	x := shape{3, 4, 1, true}
	s, v := x.full(t)
	for gen := 2; gen < 9; gen++ {
		was := sectorsOf(t, s)
		if n := spends(s, func() { done(t, v.Save(1, gen%4, gen%3)) }); n != 4*(5+1) {
			t.Errorf("Save took %d", n)
		}
		if waits(s) != 0 {
			t.Error("something waits behind Save")
		}
		said := x.saidOf(0)
		said.Gen, said.Spare, said.Mark, said.Cursor = gen, 1, gen%4, gen%3
		for disk := range 4 {
			said.Disk = disk
			says(t, s, disk, gen&1, said)
			for n, b := range sectorsOf(t, s)[disk] {
				if n != 0 && n != 1+gen&1 && !bytes.Equal(b, was[disk][n]) {
					t.Errorf("Save changed the disk %d's sector %d", disk, n)
				}
			}
		}
	}
}

func TestSaveHasALastGeneration(t *testing.T) { // P8.6
	x := shape{3, 4, 1, true}
	s, _ := x.full(t)
	said := x.saidOf(0)
	said.Gen = api.MaxGen - 1
	write(t, s, 0, 1, said)
	v := again(t, s)
	done(t, v.Save(-1, 0, 3))
	said.Gen, said.Cursor = api.MaxGen, 3
	finds(t, "the last generation", s, said)
	count := s.Count()
	for range 2 {
		is(t, "Save", v.Save(-1, 0, 1), api.ErrArg) // there is no next one
		is(t, "Save", again(t, s.Fork()).Save(-1, 0, 1), api.ErrArg)
	}
	if s.Count() != count || v.Status().Cursor != 3 {
		t.Error("what is refused changes something")
	}
}

func TestSaveFlushesFirstIfNeedBe(t *testing.T) { // P8.6
	x := shape{4, 5, 1, true}
	s, v := x.full(t)
	done(t, v.Write(3, text(1)))
	f := s.Fork()
	is(t, "Save", v.Save(-1, 0, 5), api.ErrArg)
	if len(v.open) != 1 || waits(s) == 0 {
		t.Error("a Save that is refused flushes")
	}
	done(t, v.Save(-1, 0, 4))
	if waits(s) != 0 || len(v.open)+len(v.used) != 0 {
		t.Error("something waits behind Save")
	}
	noSlots(t, "Save", s, x)
	s.Crash(nil)
	has(t, again(t, s), 3, text(1))
	f.Crash(nil)
	has(t, again(t, f), 3, text(1003))
}

func TestSaveWithDeadDisks(t *testing.T) { // P8.6
	x := shape{3, 4, 1, true}
	for which := range 16 {
		s, v := x.full(t)
		done(t, v.Write(0, text(1)))
		for disk := range 4 {
			if which>>disk&1 == 1 {
				done(t, s.Kill(disk))
			}
		}
		done(t, v.Save(1, 0, 3))
		if v.Status().Cursor != 3 || v.Status().Spare != 1 {
			t.Errorf("%+v", v.Status())
		}
		said := x.saidOf(0)
		said.Gen, said.Spare, said.Cursor = 2, 1, 3
		if which == 15 {
			findsNothing(t, "all dead", s, api.ErrCode)
		} else {
			finds(t, "some dead", s, said)
		}
	}
}

func TestASaveThatIsRefusedIsSavedOrNot(t *testing.T) { // P8.6, P8.8
	x := shape{3, 4, 1, true}
	s, v := x.full(t)
	done(t, v.Save(2, 1, 0))
	for n := range 4*4 + 1 {
		f := s.Fork()
		w := again(t, f)
		f.Stop(n)
		e := w.Save(2, 2, 1)
		want := api.OK
		if n < 16 {
			want = api.ErrOff
		}
		is(t, "Save", e, want)
		if (w.Status().Mark == 2) != (want == api.OK) || (w.said.Gen == 3) != (want == api.OK) {
			t.Errorf("the power off behind %d: %+v", n, w.Status())
		}
		saved, not := 0, 0
		someCrashes(f, func(g *shelf.Shelf) {
			switch w := again(t, g); w.said {
			case api.Super{Gen: 3, Members: 3, Stripes: 4, Logs: 1, Spare: 2, Mark: 2, Cursor: 1, Disk: w.said.Disk}:
				saved++
			case api.Super{Gen: 2, Members: 3, Stripes: 4, Logs: 1, Spare: 2, Mark: 1, Disk: w.said.Disk}:
				not++
			default:
				t.Errorf("behind %d: %+v", n, w.said)
			}
		})
		if n >= 4 && not > 0 || n < 3 && saved > 0 || n == 3 && (saved == 0 || not == 0) {
			t.Errorf("behind %d: %d saved, %d not", n, saved, not)
		}
	}
}

func TestABadPlaceToSayItIsSaidAnew(t *testing.T) { // P8.6, P8.2
	x := shape{3, 4, 1, true}
	for disk := range 4 {
		for block := range 2 {
			s, v := x.full(t)
			done(t, v.Save(-1, 0, 1))
			turn(t, s, disk, block)
			said := x.saidOf(0)
			said.Gen, said.Cursor = 2, 1
			finds(t, "a bad block", s.Fork(), said)
			done(t, v.Save(-1, 0, 2))
			said.Gen, said.Cursor = 3, 2
			finds(t, "a bad block, and a Save", s, said)
		}
	}
}

func TestWhatIsSaidMayBeSaid(t *testing.T) { // P8.6: all that Save takes is right
	x := shape{3, 4, 1, true}
	_, v := x.full(t)
	for spare := -2; spare < 4; spare++ {
		for mark := -1; mark < 6; mark++ {
			for cursor := -1; cursor < 5; cursor++ {
				may := super.Right(api.Super{Gen: 1, Members: 3, Stripes: 4, Logs: 1, Spare: spare, Mark: mark, Cursor: cursor})
				want := api.ErrArg
				if may {
					want = api.OK
				}
				is(t, "Save", v.Save(spare, mark, cursor), want)
			}
		}
	}
}
