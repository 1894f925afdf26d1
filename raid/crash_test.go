package raid

import (
	"bytes"
	"math/rand"
	"slices"
	"testing"

	"ashlar/api"
	"ashlar/shelf"
	"ashlar/sums"
)

// A job is a call of a volume; a second one may fail if the power goes.
type job struct {
	what string
	n    int // a block, or a stripe
	x    int // a text
}

// A bench is an array, with what each of its blocks may have behind a crash: at the last Flush that was OK, or since.
type bench struct {
	t     *testing.T
	shape shape
	s     *shelf.Shelf
	v     *Volume
	may   [][]int // texts' numbers, the last one is what is read
}

// begin is a full array.
func begin(t *testing.T, x shape) *bench {
	t.Helper()
	b := &bench{t: t, shape: x}
	b.s, b.v = x.full(t)
	for n := range x.blocks() {
		b.may = append(b.may, []int{1000 + n})
	}
	return b
}

// fork is another bench that is the same, behind a crash that keeps some of what waits.
func (b *bench) fork(keep [][]int) *bench {
	f := *b
	f.s = b.s.Fork()
	f.s.Crash(keep)
	f.v = nil
	return &f
}

// do does jobs till the power is off.
func (b *bench) do(jobs []job) {
	b.t.Helper()
	for _, j := range jobs {
		if b.s.Off() {
			return
		}
		before := b.s.Count()
		e := b.call(j)
		if e != api.OK && e != api.ErrOff {
			b.t.Errorf("%+v: error %d", j, e)
		}
		most := 1200
		if j.what == "read" {
			most = 64
		}
		if n := b.s.Count() - before; n > most {
			b.t.Errorf("%+v took %d reads, writes and flushes", j, n)
		}
	}
}

func (b *bench) call(j job) api.Errno {
	b.t.Helper()
	switch j.what {
	case "write":
		b.may[j.n] = append(slices.Clip(b.may[j.n]), j.x)
		return b.v.Write(j.n, text(j.x))
	case "read":
		got, e := b.v.Read(j.n)
		if want := b.may[j.n]; e == api.OK && !bytes.Equal(got, text(want[len(want)-1])) {
			b.t.Errorf("Read(%d) = %x.., not what was written last", j.n, got[:4])
		}
		return e
	case "flush":
		e := b.v.Flush()
		if e == api.OK {
			b.settled()
		}
		return e
	case "mend":
		_, e := b.v.Mend(j.n)
		return e
	case "fill":
		return b.fill()
	case "save":
		s := b.v.Status()
		return b.v.Save(s.Spare, s.Mark, j.n)
	}
	b.t.Fatal(j.what)
	return api.OK
}

// fill does what a keeper's tick does: a stripe of the spare, and it is saved.
func (b *bench) fill() api.Errno {
	s := b.v.Status()
	if s.Spare == -1 || s.Mark == s.Stripes || !b.v.Spares() {
		return api.OK
	}
	if e := b.v.Fill(s.Mark); e != api.OK {
		return e
	}
	return b.v.Save(s.Spare, s.Mark+1, s.Cursor)
}

func (b *bench) settled() {
	for n, all := range b.may {
		b.may[n] = all[len(all)-1:]
	}
}

// check opens the array behind a crash, and holds each block against what it may have.
func (b *bench) check(what string) {
	b.t.Helper()
	v, e := Open(b.s)
	if e != api.OK {
		b.t.Fatalf("%s: Open: %d", what, e)
	}
	b.v = v
	b.wholes(what)
	for n, all := range b.may {
		got, e := v.Read(n)
		k := slices.IndexFunc(all, func(x int) bool { return bytes.Equal(got, text(x)) })
		if e != api.OK || k < 0 {
			b.t.Fatalf("%s: Read(%d) = %x.., %d, which is none of %v", what, n, got[:min(4, len(got))], e, all)
		}
		b.may[n] = all[k : k+1]
	}
	b.wholes(what)
}

// wholes fails if a stripe of which no block is lacking does not go with its parity, or more than one is lacking.
func (b *bench) wholes(what string) {
	b.t.Helper()
	for stripe := range b.shape.stripes {
		lacking := b.lacking(stripe)
		w, e := b.v.Whole(stripe)
		if e != api.OK || w != (lacking == 0) {
			b.t.Fatalf("%s: %d are lacking: Whole(%d) = %v, %d", what, lacking, stripe, w, e)
		}
	}
}

// lacking is how many of a stripe's blocks are.
func (b *bench) lacking(stripe int) int {
	b.t.Helper()
	n := 0
	for member := range b.shape.members {
		if b.lacks(b.s, stripe, member) {
			n++
		}
	}
	return n
}

func (b *bench) lacks(s *shelf.Shelf, stripe, member int) bool {
	b.t.Helper()
	d, e := sums.Open(s, b.v.numberOf(stripe, member))
	done(b.t, e)
	_, e = d.Read(b.shape.base() + stripe)
	return e != api.OK
}

// copyOf is a bench whose lists are its own.
func (b *bench) copyOf() *bench {
	f := *b
	f.may = slices.Clone(b.may)
	return &f
}

// lists are jobs that are cut short by a crash.
func lists() [][]job {
	return [][]job{
		{{"write", 0, 1}},
		{{"write", 1, 1}},
		{{"write", 0, 1}, {"write", 1, 2}},
		{{"write", 0, 1}, {"write", 0, 2}},
		{{"write", 3, 1}, {"flush", 0, 0}, {"write", 3, 2}},
		{{"write", 0, 1}, {"write", 2, 2}, {"write", 4, 3}, {"write", 1, 4}},
		{{"write", 0, 1}, {"write", 6, 2}, {"write", 3, 3}, {"flush", 0, 0}},
		{{"write", 5, 1}, {"mend", 1, 0}, {"write", 5, 2}, {"save", 1, 0}},
	}
}

func TestThePowerGoesAndAMemberDies(t *testing.T) { // P8.8, P4 of the whole
	for _, x := range []shape{{3, 4, 1, false}, {4, 3, 2, true}} {
		for _, jobs := range lists() {
			for early := range 2 { // the member dies before the jobs, or behind them
				for dead := -1; dead < x.disks(); dead++ {
					for n, over := 0, false; !over; n++ {
						b := begin(t, x)
						if early == 1 && dead >= 0 {
							done(t, b.s.Kill(dead))
						}
						b.s.Stop(n)
						b.do(jobs)
						over = !b.s.Off()
						if early == 0 && dead >= 0 {
							done(t, b.s.Kill(dead))
						}
						keeps(b.s, func(keep [][]int) {
							f := b.copyOf().fork(keep)
							f.check("behind a crash")
							f.do([]job{{"write", 0, 50}, {"write", 1, 51}, {"flush", 0, 0}, {"read", 0, 0}, {"read", 1, 0}})
							f.wholes("behind more writes")
						})
					}
				}
			}
		}
	}
}

func TestThePowerGoesWhileABlockIsBad(t *testing.T) { // P8.8, P8.9
	x := shape{4, 3, 1, false}
	for _, jobs := range append(lists(),
		[]job{{"read", 1, 0}, {"write", 0, 1}},
		[]job{{"read", 0, 0}, {"write", 1, 1}, {"read", 2, 0}, {"write", 2, 2}},
		[]job{{"write", 0, 1}, {"read", 1, 0}, {"read", 2, 0}},
		[]job{{"mend", 0, 0}, {"write", 2, 2}, {"mend", 0, 0}},
	) {
		for bad := range 4 {
			for n, over := 0, false; !over; n++ {
				b := begin(t, x)
				turn(t, b.s, bad, x.base())
				b.s.Stop(n)
				b.do(jobs)
				over = !b.s.Off()
				keeps(b.s, func(keep [][]int) {
					f := b.copyOf().fork(keep)
					f.check("behind a crash")
				})
			}
		}
	}
}

func TestTheLogTellsWhatADeadMemberHas(t *testing.T) { // P8.8: crashes of an Open behind a crash, a member dead
	x := shape{3, 3, 1, true}
	for dead := range 3 {
		for late := range 2 { // the member dies at the crash, or at that of the Open
			for n := range 14 {
				b := begin(t, x)
				b.s.Stop(n)
				b.do([]job{{"write", 1, 1}, {"write", 2, 2}})
				keeps(b.s, func(keep [][]int) {
					for m := range 30 {
						f := b.copyOf().fork(keep)
						if late == 0 {
							done(t, f.s.Kill(dead))
						}
						f.s.Stop(m)
						_, e := Open(f.s)
						if late == 1 {
							done(t, f.s.Kill(dead))
						}
						keep, number := make([][]int, 4), 0
						for d := range keep {
							for k := range f.s.Waits(d) {
								if (number+m)%2 == 0 {
									keep[d] = append(keep[d], k)
								}
								number++
							}
						}
						f = f.fork(keep)
						f.check("behind a crash of an Open")
						if e == api.OK {
							break
						}
					}
				})
			}
		}
	}
}

func TestThePowerGoesWhileTheSpareIsFilled(t *testing.T) { // P8.8
	x := shape{4, 3, 1, true}
	jobs := []job{{"fill", 0, 0}, {"write", 0, 1}, {"fill", 0, 0}, {"write", 4, 2}, {"write", 8, 3}, {"fill", 0, 0}, {"write", 1, 4}, {"write", 3, 5}, {"flush", 0, 0}}
	for dead := range 4 {
		for n, over := 0, false; !over; n++ {
			b := begin(t, x)
			done(t, b.s.Kill(dead))
			done(t, b.v.Save(dead, 0, 0))
			b.s.Stop(n)
			b.do(jobs)
			over = !b.s.Off()
			keeps(b.s, func(keep [][]int) {
				f := b.copyOf().fork(keep)
				f.check("behind a crash")
				f.do([]job{{"fill", 0, 0}, {"fill", 0, 0}, {"fill", 0, 0}, {"write", 5, 9}})
				f.wholes("the spare is filled")
				for next := range 5 {
					g := f.copyOf().fork(nil)
					done(t, g.s.Kill(next))
					g.check("one more died")
				}
			})
		}
	}
}

// A storm is a bench to which anything happens that leaves one block of each stripe lacking at most.
type storm struct {
	*bench
	r    *rand.Rand
	next int // text
}

// jobs are some at random.
func (w *storm) jobs(most int) []job {
	var all []job
	for range 1 + w.r.Intn(most) {
		w.next++
		n, stripe := w.r.Intn(w.shape.blocks()), w.r.Intn(w.shape.stripes)
		all = append(all, []job{
			{"write", n, w.next}, {"write", n, w.next}, {"write", n, w.next}, {"write", n, w.next}, {"write", n, w.next},
			{"read", n, 0}, {"read", n, 0}, {"flush", 0, 0}, {"mend", stripe, 0}, {"fill", 0, 0}, {"save", stripe, 0},
		}[w.r.Intn(11)])
	}
	return all
}

// hurt turns bytes, lets a member die, or lets the spare stand for one.
func (w *storm) hurt() {
	w.t.Helper()
	switch w.r.Intn(8) {
	case 0:
		w.kill()
	case 1:
		if s := w.v.Status(); len(s.Dead) > 0 && s.Spare == -1 && w.v.Spares() {
			if e := w.v.Save(s.Dead[0], 0, s.Cursor); e != api.OK && e != api.ErrOff {
				w.t.Errorf("Save: %d", e)
			}
		}
	case 2: // what a disk says, or a log that is not used
		if len(w.v.used) == 0 {
			disk, block := w.r.Intn(w.shape.disks()), w.r.Intn(w.shape.base())
			w.corrupt(disk, block)
		}
	default:
		stripe, member := w.r.Intn(w.shape.stripes), w.r.Intn(w.shape.members)
		if w.mayLack(stripe, member) {
			w.corrupt(w.v.numberOf(stripe, member), w.shape.base()+stripe)
		}
	}
}

// corrupt turns a byte of a block, or of its sums; a sector that waits stays.
func (w *storm) corrupt(disk, block int) {
	w.t.Helper()
	sum, data, e := sums.Place(block)
	done(w.t, e)
	if block < 2 && w.saying() < 2 { // one disk at least has to say what the array is
		return
	}
	switch e := w.s.Corrupt(disk, data, w.r.Intn(128), byte(1+w.r.Intn(255))); e {
	case api.OK, api.ErrState:
	default:
		w.t.Errorf("Corrupt: %d", e)
	}
	if w.r.Intn(3) == 0 {
		w.s.Corrupt(disk, sum, 8*(block%16)+w.r.Intn(8), byte(1+w.r.Intn(255)))
	}
}

// saying is how many disks say what the array is.
func (w *storm) saying() int {
	n := 0
	for disk := range w.shape.disks() {
		if _, holds := w.v.saying(disk, w.v.said.Gen&1); holds {
			n++
		}
	}
	return n
}

// mayLack tells whether none of a stripe's blocks is lacking but that of one member, also if all that waits is lost:
// what was bad and has been written anew, but not flushed, would be bad again.
func (w *storm) mayLack(stripe, member int) bool {
	w.t.Helper()
	lost := forkOf(w.s, nil)
	for other := range w.shape.members {
		if other != member && (w.lacks(w.s, stripe, other) || w.lacks(lost, stripe, other)) {
			return false
		}
	}
	return true
}

// kill lets a disk die, if one block of each stripe at most is lacking then.
func (w *storm) kill() {
	w.t.Helper()
	disk := w.r.Intn(w.shape.disks())
	if w.saying() < 2 {
		return
	}
	for stripe := range w.shape.stripes {
		for member := range w.shape.members {
			if w.v.numberOf(stripe, member) == disk && !w.mayLack(stripe, member) {
				return
			}
		}
	}
	done(w.t, w.s.Kill(disk))
}

// crash loses some of what waits, and opens the array again, which crashes, too.
func (w *storm) crash() {
	w.t.Helper()
	for {
		w.s.Crash(w.keep())
		w.s.Stop(w.r.Intn(60) - 5)
		if _, e := Open(w.s); e == api.OK {
			break
		} else if e != api.ErrOff {
			w.t.Fatalf("Open: %d", e)
		}
	}
	w.s.Crash(w.keep())
	w.check("behind a crash")
}

// keep is what a crash keeps.
func (w *storm) keep() [][]int {
	keep := make([][]int, w.shape.disks())
	most := w.r.Intn(4)
	for d := range keep {
		for k := range w.s.Waits(d) {
			if w.r.Intn(3) < most {
				keep[d] = append(keep[d], k)
			}
		}
	}
	return keep
}

func TestStorms(t *testing.T) { // P8.7, P8.8, P8.9, P8.10
	r := rand.New(rand.NewSource(21))
	for range 1200 {
		x := shape{3 + r.Intn(3), 1 + r.Intn(6), 1 + r.Intn(3), r.Intn(2) == 0}
		if r.Intn(20) == 0 {
			x.members = 16
		}
		w := &storm{begin(t, x), r, 5000}
		for range 6 {
			for range r.Intn(4) {
				w.do(w.jobs(8))
				w.hurt()
			}
			w.s.Stop(r.Intn(120))
			w.do(w.jobs(12))
			if w.s.Off() || r.Intn(2) == 0 {
				w.crash()
			} else {
				w.s.Stop(-1)
			}
		}
		if t.Failed() {
			return
		}
	}
}

func TestWhateverDiesAndTurns(t *testing.T) { // P8.10, P6 of the whole
	r := rand.New(rand.NewSource(22))
	for range 1500 {
		x := shape{3 + r.Intn(3), 1 + r.Intn(5), 1 + r.Intn(3), r.Intn(2) == 0}
		s, v := x.create(t)
		ever := make([]map[string]bool, x.blocks())
		for n := range ever {
			ever[n] = map[string]bool{string(noughts()): true}
		}
		for k := range 60 {
			n, stripe := r.Intn(x.blocks()), r.Intn(x.stripes)
			before, most := s.Count(), 1200
			switch r.Intn(12) {
			case 0, 1, 2, 3:
				ever[n][string(text(k))] = true
				v.Write(n, text(k))
			case 4, 5, 6:
				most = 64
				switch b, e := v.Read(n); e {
				case api.OK:
					if !ever[n][string(b)] {
						t.Fatalf("Read(%d) = %x.., which nobody wrote", n, b[:4])
					}
				case api.ErrIo, api.ErrOff:
				default:
					t.Fatalf("Read(%d): error %d", n, e)
				}
			case 7:
				v.Flush()
				v.Mend(stripe)
				v.Whole(stripe)
			case 8:
				if status := v.Status(); len(status.Dead) > 0 && status.Spare == -1 {
					v.Save(status.Dead[0], 0, status.Cursor)
				} else if v.Fill(status.Mark) == api.OK {
					v.Save(status.Spare, status.Mark+1, status.Cursor)
				}
			case 9:
				for range 3 {
					block := x.base() + r.Intn(x.stripes)
					if len(v.used) == 0 {
						block = r.Intn(x.need())
					}
					_, at, e := sums.Place(block)
					done(t, e)
					s.Corrupt(r.Intn(x.disks()), at, r.Intn(128), byte(1+r.Intn(255)))
				}
			case 10:
				if r.Intn(3) == 0 {
					s.Kill(r.Intn(x.disks()))
				}
			case 11:
				s.Stop(r.Intn(40))
			}
			if s.Count()-before > most && most == 64 {
				t.Errorf("a Read took %d", s.Count()-before)
			}
			if s.Off() {
				keeps(s, func(keep [][]int) { Open(forkOf(s, keep)) })
				s.Crash(nil)
				w, e := Open(s)
				if e != api.OK {
					is(t, "Open", e, api.ErrCode)
					break // no disk says any more what the array is
				}
				v = w
			}
		}
	}
}

func forkOf(s *shelf.Shelf, keep [][]int) *shelf.Shelf {
	f := s.Fork()
	f.Crash(keep)
	return f
}
