package maint

import (
	"bytes"
	"math"
	"math/rand"
	"slices"
	"testing"

	"ashlar/api"
	"ashlar/raid"
	"ashlar/shelf"
	"ashlar/sums"
)

// keepOf is what a crash keeps: those of all waiting writes that a function takes.
func keepOf(s *shelf.Shelf, kept func(number int) bool) [][]int {
	disks, _ := s.Size()
	keep, number := make([][]int, disks), 0
	for d := range disks {
		for k := range s.Waits(d) {
			if kept(number) {
				keep[d] = append(keep[d], k)
			}
			number++
		}
	}
	return keep
}

// someKeeps calls a function with lists of what a crash may keep: all lists, or none, all and some, if those are too many.
func someKeeps(s *shelf.Shelf, then func(keep [][]int)) {
	total := waits(s)
	if total <= 4 {
		for which := range 1 << total {
			then(keepOf(s, func(number int) bool { return which>>number&1 == 1 }))
		}
		return
	}
	then(nil)
	then(keepOf(s, func(int) bool { return true }))
	r := rand.New(rand.NewSource(int64(total)))
	for range 6 {
		then(keepOf(s, func(int) bool { return r.Intn(2) == 0 }))
	}
	for one := range min(total, 8) {
		then(keepOf(s, func(number int) bool { return number == one }))
		then(keepOf(s, func(number int) bool { return number != one }))
	}
}

// A cut is a call in whose middle the power goes, behind some deeds.
type cut struct {
	what  string
	x     shape
	deeds []deed
	call  func(k *Keeper) api.Errno
	told  api.Errno // with power
	stand stand     // behind it
}

func tickOf(k *Keeper) api.Errno {
	did, e := k.Tick()
	if e != api.OK && did != Idle {
		return -1
	}
	return e
}

func beginOf(k *Keeper) api.Errno { return k.Begin() }

func runOf(k *Keeper) api.Errno {
	_, e := k.Run(2, 2)
	return e
}

// cuts are of arrays whose stripe 0 has its data on the first members, and its parity on the last one.
func cuts() []cut {
	x, thin := shape{4, 3, 1, true}, shape{3, 1, 1, true}
	wrote := func(deeds ...deed) []deed { return append(deeds, writes(0), writes(4)) }
	return []cut{
		{"a Begin", x, []deed{dies(1)}, beginOf, api.OK, stand{1, 0, 0}},
		{"a Begin behind writes", x, wrote(dies(1)), beginOf, api.OK, stand{1, 0, 0}},
		{"a Begin of one stripe", thin, []deed{dies(2)}, beginOf, api.OK, stand{2, 0, 0}},
		{"a fill", x, []deed{dies(1), begins}, tickOf, api.OK, stand{1, 1, 0}},
		{"a fill of a parity", x, []deed{dies(3), begins}, tickOf, api.OK, stand{3, 1, 0}},
		{"a fill behind writes", x, wrote(dies(1), begins, ticks(1)), tickOf, api.OK, stand{1, 2, 0}},
		{"a fill behind a write of its stripe", x, []deed{dies(1), begins, ticks(1), writes(5)}, tickOf, api.OK, stand{1, 2, 0}},
		{"a fill of the last stripe", x, wrote(dies(0), begins, ticks(2)), tickOf, api.OK, stand{0, 3, 0}},
		{"a fill of one stripe", thin, []deed{dies(0), begins}, tickOf, api.OK, stand{0, 1, 0}},
		{"a fill over what is bad", x, []deed{dies(1), begins, turns(0, 4)}, tickOf, api.OK, stand{1, 1, 0}},
		{"a scrub", x, nil, tickOf, api.OK, stand{-1, 0, 1}},
		{"a scrub behind writes", x, wrote(), tickOf, api.OK, stand{-1, 0, 1}},
		{"a scrub that mends", x, []deed{turns(0, 1)}, tickOf, api.OK, stand{-1, 0, 1}},
		{"a scrub that mends a parity", x, []deed{turns(0, 3)}, tickOf, api.OK, stand{-1, 0, 1}},
		{"a scrub that mends behind writes", x, wrote(turns(0, 1)), tickOf, api.OK, stand{-1, 0, 1}},
		{"a scrub that mends the spare", x, []deed{dies(1), begins, ticks(3), turns(0, 1)}, tickOf, api.OK, stand{1, 3, 1}},
		{"a scrub of the last stripe", x, wrote(ticks(2), turns(2, 0)), tickOf, api.OK, first},
		{"a scrub with a dead member", x, wrote(dies(2)), tickOf, api.OK, stand{-1, 0, 1}},
		{"a scrub of what can't be mended", x, []deed{turns(0, 1), turns(0, 3)}, tickOf, api.ErrIo, stand{-1, 0, 1}},
		{"a scrub of what can't be mended behind a write", x, []deed{turns(0, 1), turns(0, 3), writes(4)}, tickOf, api.ErrIo, stand{-1, 0, 1}},
		{"a scrub of what is bad and dead", x, []deed{turns(0, 0), dies(3)}, tickOf, api.ErrIo, stand{-1, 0, 1}},
		{"a fill of what can't be told", x, []deed{turns(0, 0), dies(1), begins, writes(4)}, tickOf, api.ErrIo, stand{1, 0, 0}},
		{"a scrub of one stripe", thin, []deed{turns(0, 1)}, tickOf, api.OK, first},
		{"a scrub of 16 members", shape{16, 2, 1, true}, []deed{turns(0, 9), writes(17)}, tickOf, api.OK, stand{-1, 0, 1}},
		{"a fill of 16 members", shape{16, 2, 1, true}, []deed{dies(9), begins, writes(17)}, tickOf, api.OK, stand{9, 1, 0}},
		{"a scrub without a spare", shape{3, 2, 1, false}, []deed{turns(0, 0)}, tickOf, api.OK, stand{-1, 0, 1}},
		{"a Run of two fills", x, []deed{dies(1), begins}, runOf, api.OK, stand{1, 2, 0}},
		{"a Run of two scrubs", x, []deed{turns(1, 1)}, runOf, api.OK, stand{-1, 0, 2}},
	}
}

func TestThePowerGoesWithinACall(t *testing.T) { // P9.2, P9.3, P9.5, P8.8
	for _, c := range cuts() {
		t.Run(c.what, func(t *testing.T) {
			for n, off := 0, true; off; n++ {
				s, k := c.x.behind(t, c.deeds...)
				was := standOf(k)
				s.Stop(n)
				e := c.call(k)
				off = s.Off()
				if e != c.told && (e != api.ErrOff || !off) {
					t.Errorf("behind %d: error %d", n, e)
				}
				if (e == api.OK || !off) && standOf(k) != c.stand {
					t.Errorf("behind %d: it stands at %+v", n, standOf(k))
				}
				c.between(t, was, standOf(k))
				someKeeps(s, func(keep [][]int) {
					g := again(t, forkOf(s, keep))
					c.between(t, standOf(k), standOf(g)) // what the keeper had saved is sure
					stands(t, "behind a crash", g, standOf(g))
					c.reads(t, g)
				})
				if t.Failed() {
					return
				}
			}
		})
	}
}

// between fails if a keeper is neither where it was, nor where the call goes, nor on its way.
func (c cut) between(t *testing.T, was, now stand) {
	t.Helper()
	onTheWay := now.spare == c.stand.spare && now.mark >= was.mark && now.mark <= c.stand.mark &&
		now.cursor >= was.cursor && now.cursor <= c.stand.cursor
	if now != was && now != c.stand && !onTheWay {
		t.Errorf("it stands at %+v, on no way from %+v to %+v", now, was, c.stand)
	}
}

// reads looks at all blocks; those of the stripe 0 can't be told, if a call tells so.
func (c cut) reads(t *testing.T, k *Keeper) {
	t.Helper()
	for n := range k.Size() {
		if n < c.x.members-1 && c.told == api.ErrIo {
			if b, e := k.Read(n); e == api.OK && !isOldOrNew(n, b) || e != api.OK && e != api.ErrIo {
				t.Errorf("Read(%d): %d", n, e)
			}
			continue
		}
		readsOldOrNew(t, k, n)
	}
}

// isOldOrNew tells whether a full array's block has the bytes of at first, or those of the deed writes.
func isOldOrNew(n int, b []byte) bool {
	return bytes.Equal(b, text(1000+n)) || bytes.Equal(b, text(1))
}

func readsOldOrNew(t *testing.T, k *Keeper, n int) {
	t.Helper()
	if b, e := k.Read(n); e != api.OK || !isOldOrNew(n, b) {
		t.Errorf("Read(%d) = %x.., %d", n, b[:min(4, len(b))], e)
	}
}

func eachIsOldOrNew(t *testing.T, k *Keeper) {
	t.Helper()
	for n := range k.Size() {
		readsOldOrNew(t, k, n)
	}
}

func TestACutBeginBeginsAgain(t *testing.T) { // P9.2, P9.4
	x := shape{4, 3, 1, true}
	for n := range 18 {
		s, k := x.behind(t, dies(2), writes(0))
		s.Stop(n)
		k.Begin()
		someKeeps(s, func(keep [][]int) {
			f := forkOf(s, keep)
			g := again(t, f)
			done(t, g.Begin())
			for range 3 {
				ticked(t, "a tick", g, Filled, api.OK)
			}
			is(t, "Begin", g.Begin(), api.ErrNone)
			allWhole(t, "filled", g)
			for disk := range 5 {
				h := forkOf(f, nil)
				done(t, h.Kill(disk))
				eachIsOldOrNew(t, again(t, h))
			}
		})
	}
}

func TestAFillOutlivesItsCrashes(t *testing.T) { // P9.4: as many ticks as there are stripes, and one for each crash
	for _, x := range []shape{{3, 1, 1, true}, {3, 4, 1, true}, {4, 5, 2, true}} {
		for dead := range x.members {
			for every := 1; every < 45; every += 2 { // writes and flushes behind which the power goes
				s, k := x.behind(t, dies(dead), begins)
				most := x.stripes
				for n := 0; k.Left() > 0; n++ {
					if n == most {
						t.Fatalf("%+v: behind %d ticks %d are left", x, n, k.Left())
					}
					if most-x.stripes < 5 {
						s.Stop(every)
					}
					k.Write((n+every)%x.blocks(), text(1))
					if s.Off() { // it was no tick that was cut
						s.Crash(keepOf(s, func(number int) bool { return number%2 == n%2 }))
						k = again(t, s)
					}
					if _, e := k.Tick(); e != api.OK || s.Off() {
						s.Crash(keepOf(s, func(number int) bool { return number%3 != n%3 }))
						k, most = again(t, s), most+1
					}
					s.Stop(-1)
					eachIsOldOrNew(t, k)
				}
				allWhole(t, "filled", k)
				for disk := range x.disks() {
					f := forkOf(s, nil)
					done(t, f.Kill(disk))
					eachIsOldOrNew(t, again(t, f))
				}
			}
		}
	}
}

// A storm is an array to which anything happens that leaves one block of each stripe lacking at most.
type storm struct {
	t      *testing.T
	x      shape
	r      *rand.Rand
	s      *shelf.Shelf
	k      *Keeper
	may    [][]int // of each block the texts that it may have behind a crash; the last one is what is read
	next   int     // text
	mended int
	often  float64
}

func newStorm(t *testing.T, x shape, r *rand.Rand) *storm {
	t.Helper()
	w := &storm{t: t, x: x, r: r, next: 5000, often: math.NaN()}
	w.s, w.k = x.full(t)
	for n := range x.blocks() {
		w.may = append(w.may, []int{1000 + n})
	}
	return w
}

func anyShape(r *rand.Rand) shape {
	x := shape{3 + r.Intn(3), 1 + r.Intn(6), 1 + r.Intn(3), r.Intn(4) > 0}
	if r.Intn(20) == 0 {
		x.members = 16
	}
	return x
}

// allowed fails if a call was refused for another cause than that the power went.
func (w *storm) allowed(what string, e api.Errno) {
	w.t.Helper()
	if e != api.OK && (e != api.ErrOff || !w.s.Off()) {
		w.t.Fatalf("%s: error %d", what, e)
	}
}

// work writes, reads, or flushes.
func (w *storm) work() {
	w.t.Helper()
	n := w.r.Intn(w.x.blocks())
	switch w.r.Intn(8) {
	case 0, 1, 2, 3:
		w.next++
		w.may[n] = append(slices.Clip(w.may[n]), w.next)
		w.allowed("Write", w.k.Write(n, text(w.next)))
	case 4, 5:
		b, e := w.k.Read(n)
		w.allowed("Read", e)
		if want := w.may[n]; e == api.OK && !bytes.Equal(b, text(want[len(want)-1])) {
			w.t.Fatalf("Read(%d) = %x.., not what was written last", n, b[:4])
		}
	case 6:
		w.flush()
	case 7:
		_, e := w.k.Mend(w.r.Intn(w.x.stripes))
		w.allowed("Mend", e)
	}
}

func (w *storm) flush() {
	w.t.Helper()
	e := w.k.Flush()
	w.allowed("Flush", e)
	if e == api.OK {
		w.settled()
	}
}

// settled: nothing of what was written is lost any more.
func (w *storm) settled() {
	for n, all := range w.may {
		w.may[n] = all[len(all)-1:]
	}
}

// tick holds a tick against what it is to do.
func (w *storm) tick() bool {
	w.t.Helper()
	now, want := w.k.Status(), Scrubbed
	next, mends := standOf(w.k), 0
	if now.Spare != -1 && now.Mark < now.Stripes {
		want, next.mark = Filled, now.Mark+1
	} else {
		next.cursor = (now.Cursor + 1) % now.Stripes
		if len(w.bad(w.k, w.s, now.Cursor)) > 0 {
			mends = 1
		}
	}
	did, e := w.k.Tick()
	w.allowed("Tick", e)
	if e != api.OK {
		want, next, mends = Idle, stand{now.Spare, now.Mark, now.Cursor}, 0
	}
	if did != want || standOf(w.k) != next {
		w.t.Fatalf("Tick = %d, to %+v, not %d, to %+v", did, standOf(w.k), want, next)
	}
	if did == Scrubbed {
		if w.mended += mends; math.IsNaN(w.often) {
			w.often = float64(mends)
		} else {
			w.often = w.often*0.75 + float64(mends)*0.25
		}
	}
	counted(w.t, "behind a tick", w.k, w.mended, w.often)
	stands(w.t, "behind a tick", w.k, next)
	return e == api.OK
}

// bad are the members whose blocks of a stripe are bad on a shelf.
func (w *storm) bad(k *Keeper, s *shelf.Shelf, stripe int) []int {
	w.t.Helper()
	return w.those(k, s, stripe, func(e api.Errno) bool { return e == api.ErrBad })
}

func (w *storm) lacking(k *Keeper, s *shelf.Shelf, stripe int) []int {
	w.t.Helper()
	return w.those(k, s, stripe, func(e api.Errno) bool { return e != api.OK })
}

func (w *storm) those(k *Keeper, s *shelf.Shelf, stripe int, is func(e api.Errno) bool) []int {
	w.t.Helper()
	var all []int
	for member := range w.x.members {
		d, e := sums.Open(s, diskOf(k, stripe, member))
		done(w.t, e)
		if _, e = d.Read(w.x.base() + stripe); is(e) {
			all = append(all, member)
		}
	}
	return all
}

// mayLack tells whether no other block of a stripe than one member's is lacking, also if what waits is lost:
// what was bad and has been written anew, but not flushed, would be bad again.
func (w *storm) mayLack(stripe, member int) bool {
	w.t.Helper()
	others := func(m int) bool { return m != member }
	return !slices.ContainsFunc(w.lacking(w.k, w.s, stripe), others) &&
		!slices.ContainsFunc(w.lacking(w.k, forkOf(w.s, nil), stripe), others)
}

// corrupt turns a byte of a stripe's block, or of its sums, if no other one is lacking.
func (w *storm) corrupt() {
	w.t.Helper()
	stripe, member := w.r.Intn(w.x.stripes), w.r.Intn(w.x.members)
	if !w.mayLack(stripe, member) {
		return
	}
	block := w.x.base() + stripe
	sumAt, at, e := sums.Place(block)
	done(w.t, e)
	disk, with := diskOf(w.k, stripe, member), byte(1+w.r.Intn(255))
	if w.r.Intn(3) == 0 {
		w.s.Corrupt(disk, sumAt, 8*(block%16)+w.r.Intn(8), with)
		return
	}
	w.s.Corrupt(disk, at, w.r.Intn(128), with) // refused, if the sector waits
}

// kill lets a disk die, if one block of each stripe at most is lacking then.
func (w *storm) kill() {
	w.t.Helper()
	disk := w.r.Intn(w.x.disks())
	if w.s.Dead(disk) {
		return
	}
	for stripe := range w.x.stripes {
		for member := range w.x.members {
			if diskOf(w.k, stripe, member) == disk && !w.mayLack(stripe, member) {
				return
			}
		}
	}
	if now := w.k.Status(); disk == now.Members && w.k.Left() > 0 {
		return // the spare stands for a dead one: what it has is filled
	}
	done(w.t, w.s.Kill(disk))
}

// begin holds a Begin against what it is to answer.
func (w *storm) begin() {
	w.t.Helper()
	now, next, want := w.k.Status(), standOf(w.k), api.OK
	switch {
	case w.k.Left() > 0:
	case len(now.Dead) == 0:
		want = api.ErrNone
	case now.Spare != -1 || !w.x.spare || w.s.Dead(now.Members):
		want = api.ErrFull
	default:
		next = stand{now.Dead[0], 0, now.Cursor}
	}
	switch e := w.k.Begin(); {
	case e == want:
	case e == api.ErrOff && w.s.Off():
		next = stand{now.Spare, now.Mark, now.Cursor}
	default:
		w.t.Fatalf("Begin: %d, not %d", e, want)
	}
	stands(w.t, "behind a Begin", w.k, next)
}

// crash loses some of what waits, and opens the array again, which may crash, too.
func (w *storm) crash() {
	w.t.Helper()
	was := standOf(w.k)
	for cut := w.r.Intn(3); ; cut-- {
		most := w.r.Intn(4)
		w.s.Crash(keepOf(w.s, func(int) bool { return w.r.Intn(3) < most }))
		if cut > 0 {
			w.s.Stop(1 + w.r.Intn(40))
		}
		v, e := raid.Open(w.s)
		w.allowed("Open", e)
		if e == api.OK && !w.s.Off() {
			w.s.Stop(-1)
			w.k = keeperOf(w.t, v)
			break
		}
	}
	w.mended, w.often = 0, math.NaN()
	now := standOf(w.k)
	ahead := now.mark == was.mark+1 || now.cursor == (was.cursor+1)%w.x.stripes || now.spare != was.spare
	if now != was && !ahead {
		w.t.Fatalf("behind a crash it stands at %+v, not at %+v", now, was)
	}
	w.look("behind a crash")
}

// look holds each block against what it may have.
func (w *storm) look(what string) {
	w.t.Helper()
	w.wholes(what)
	for n, all := range w.may {
		b, e := w.k.Read(n)
		i := slices.IndexFunc(all, func(x int) bool { return bytes.Equal(b, text(x)) })
		if e != api.OK || i < 0 {
			w.t.Fatalf("%s: Read(%d) = %x.., %d, which is none of %v", what, n, b[:min(4, len(b))], e, all)
		}
		w.may[n] = all[i : i+1]
	}
}

// wholes fails if a stripe does not go with its parity of which no block is lacking, or if two are.
func (w *storm) wholes(what string) {
	w.t.Helper()
	for stripe := range w.x.stripes {
		lacking := len(w.lacking(w.k, w.s, stripe))
		whole, e := w.k.Whole(stripe)
		if now := w.k.Status(); now.Spare != -1 && stripe >= now.Mark {
			lacking++ // the disk for which the spare stands
			lacking = min(lacking, 1)
		}
		if e != api.OK || whole != (lacking == 0) || lacking > 1 {
			w.t.Fatalf("%s: of the stripe %d %d are lacking: %v, %d", what, stripe, lacking, whole, e)
		}
	}
}

// someWork does some, in whose midst the power may go; it is on again then. It tells whether there was a crash.
func (w *storm) someWork() bool {
	w.t.Helper()
	if w.r.Intn(3) == 0 {
		w.s.Stop(1 + w.r.Intn(50))
	}
	for range w.r.Intn(6) {
		if !w.s.Off() {
			w.work()
		}
	}
	if w.s.Off() || w.r.Intn(8) == 0 {
		w.crash()
		return true
	}
	w.s.Stop(-1)
	return false
}

// cutTick is a tick in whose midst the power may go. It tells whether there was a crash.
func (w *storm) cutTick() bool {
	w.t.Helper()
	if w.r.Intn(4) == 0 {
		w.s.Stop(1 + w.r.Intn(60))
	}
	w.tick()
	if w.s.Off() {
		w.crash()
		return true
	}
	w.s.Stop(-1)
	return false
}

func TestAStormWhileTheSpareIsFilled(t *testing.T) { // P9.4, P9.5
	r := rand.New(rand.NewSource(31))
	for range 500 {
		x := anyShape(r)
		x.spare = true
		w := newStorm(t, x, r)
		for range r.Intn(4) {
			w.someWork()
		}
		for range r.Intn(3) {
			w.tick()
		}
		done(t, w.s.Kill(r.Intn(x.members)))
		for range r.Intn(3) {
			w.someWork()
		}
		done(t, w.k.Begin())
		n, most := 0, x.stripes
		for ; w.k.Left() > 0; n++ {
			if n == most {
				t.Fatalf("%+v: behind %d ticks %d are left", x, n, w.k.Left())
			}
			w.someWork() // a crash between ticks costs none
			if w.cutTick() {
				most++
			}
		}
		w.wholes("filled")
		allWhole(t, "filled", w.k)
		w.flush()
		for disk := range x.disks() {
			f := *w
			f.s, f.may = forkOf(w.s, nil), slices.Clone(w.may)
			f.k = again(t, f.s)
			done(t, f.s.Kill(disk))
			f.look("one more died")
			f.crash()
		}
	}
}

func TestAStormAheadOfAScrub(t *testing.T) { // P9.5, P9.6
	r := rand.New(rand.NewSource(32))
	for range 500 {
		w := newStorm(t, anyShape(r), r)
		for range r.Intn(6) {
			w.someWork()
			w.corrupt()
		}
		n, most := 0, w.x.stripes
		for ; n < most; n++ {
			w.someWork()
			if w.cutTick() {
				most++
			}
		}
		for stripe := range w.x.stripes {
			if bad := w.bad(w.k, w.s, stripe); len(bad) > 0 {
				t.Fatalf("%+v: behind %d ticks the members %v of the stripe %d are bad", w.x, n, bad, stripe)
			}
		}
		allWhole(t, "scrubbed", w.k)
		w.flush()
		w.look("scrubbed")
		for disk := range w.x.members {
			f := *w
			f.s, f.may = forkOf(w.s, nil), slices.Clone(w.may)
			f.k = again(t, f.s)
			done(t, f.s.Kill(disk))
			f.look("one died")
		}
	}
}

func TestAScrubFindsWhatIsBad(t *testing.T) { // P9.6: any one of each stripe, from any stripe on
	r := rand.New(rand.NewSource(33))
	for range 300 {
		x := anyShape(r)
		s, k := x.behind(t, ticks(r.Intn(x.stripes)))
		bad := 0
		for stripe := range x.stripes {
			if r.Intn(4) > 0 {
				turns(stripe, r.Intn(x.members))(t, s, k)
				bad++
			}
		}
		if n, e := k.Run(math.Inf(1), x.stripes); n != x.stripes || e != api.OK {
			t.Fatalf("Run = %d, %d", n, e)
		}
		if k.Mended() != bad {
			t.Fatalf("%+v: Mended = %d, not %d", x, k.Mended(), bad)
		}
		s.Crash(nil)
		k = again(t, s)
		allWhole(t, "scrubbed", k)
		hasAll(t, "scrubbed", k, nil)
	}
}

func TestStorms(t *testing.T) { // P9.2 to P9.5, P8.7 to P8.9
	r := rand.New(rand.NewSource(34))
	for range 700 {
		w := newStorm(t, anyShape(r), r)
		for range 30 {
			switch r.Intn(8) {
			case 0:
				w.kill()
			case 1:
				w.begin()
				if w.s.Off() {
					w.crash()
				}
			case 2, 3:
				w.corrupt()
			case 4, 5:
				w.someWork()
			default:
				w.cutTick()
			}
		}
		w.crash()
	}
}

func TestTicksDoNotTellInReads(t *testing.T) { // P9.5: with and without ticks the same is read
	r := rand.New(rand.NewSource(35))
	for range 200 {
		x := anyShape(r)
		_, plain := x.full(t)
		s, k := x.full(t)
		for range 40 {
			n := r.Intn(x.blocks())
			switch r.Intn(6) {
			case 0, 1:
				b := text(r.Intn(1 << 20))
				done(t, plain.Write(n, b))
				done(t, k.Write(n, b))
			case 2, 3:
				want, e := plain.Read(n)
				done(t, e)
				if b, e := k.Read(n); e != api.OK || !bytes.Equal(b, want) {
					t.Fatalf("Read(%d): %d", n, e)
				}
			case 4:
				_, e := k.Run(float64(r.Intn(4)), r.Intn(4))
				done(t, e)
			case 5:
				if len(k.Status().Dead) == 0 && k.Status().Spare == -1 {
					done(t, s.Kill(r.Intn(x.members)))
				}
				k.Begin()
			}
		}
	}
}

func TestWhateverDiesAndTurns(t *testing.T) { // P1, P9.2, P9.3, and P6 of the whole
	r := rand.New(rand.NewSource(36))
	for range 600 {
		x := anyShape(r)
		s, k := x.empty(t)
		ever := make([]map[string]bool, x.blocks())
		for n := range ever {
			ever[n] = map[string]bool{string(make([]byte, api.Sector)): true}
		}
		for i := range 60 {
			n := r.Intn(x.blocks())
			switch r.Intn(12) {
			case 0, 1, 2:
				ever[n][string(text(i))] = true
				k.Write(n, text(i))
			case 3, 4:
				if b, e := k.Read(n); e == api.OK && !ever[n][string(b)] {
					t.Fatalf("Read(%d) = %x.., which nobody wrote", n, b[:4])
				}
			case 5:
				k.Flush()
			case 6, 7, 8:
				wildTick(t, s, k)
			case 9:
				if e := k.Begin(); !slices.Contains([]api.Errno{api.OK, api.ErrNone, api.ErrFull, api.ErrOff}, e) {
					t.Fatalf("Begin: %d", e)
				}
			case 10:
				for range 3 {
					_, at, e := sums.Place(x.base() + r.Intn(x.stripes))
					done(t, e)
					s.Corrupt(r.Intn(x.disks()), at, r.Intn(128), byte(1+r.Intn(255)))
				}
			case 11:
				if r.Intn(3) == 0 {
					s.Kill(r.Intn(x.disks()))
				}
				s.Stop(r.Intn(60))
			}
			if s.Off() {
				s.Crash(keepOf(s, func(int) bool { return r.Intn(2) == 0 }))
				v, e := raid.Open(s)
				if e != api.OK {
					break // no disk says any more what the array is
				}
				k = keeperOf(t, v)
			}
		}
	}
}

// wildTick holds a tick against where the keeper is behind it, whatever is lacking.
func wildTick(t *testing.T, s *shelf.Shelf, k *Keeper) {
	t.Helper()
	now, next, fills := k.Status(), standOf(k), k.Left() > 0
	mended, often := k.Mended(), k.Often()
	did, e := k.Tick()
	switch {
	case fills && did == Filled && e == api.OK:
		next.mark++
	case fills && did == Idle && (e == api.ErrIo || e == api.ErrDead):
	case !fills && did == Scrubbed && e == api.OK:
		next.cursor = (now.Cursor + 1) % now.Stripes
		mended, often = k.Mended(), k.Often()
	case !fills && did == Idle && e == api.ErrIo:
		if !s.Off() || standOf(k) != next {
			next.cursor = (now.Cursor + 1) % now.Stripes
		}
	case did == Idle && e == api.ErrOff && s.Off():
	default:
		t.Fatalf("Tick = %d, %d at %+v", did, e, now)
	}
	stands(t, "behind a tick", k, next)
	counted(t, "behind a tick", k, mended, often)
}
