package raid

import (
	"bytes"
	"math/rand"
	"testing"

	"ashlar/api"
	"ashlar/lay"
	"ashlar/ppl"
	"ashlar/shelf"
	"ashlar/sums"
	"ashlar/super"
)

// keeps calls a function with lists of what a crash may keep of so many writes: all lists, or some, if those are too many.
func keeps(s *shelf.Shelf, then func(keep [][]int)) {
	disks, _ := s.Size()
	total := waits(s)
	of := func(kept func(number int) bool) [][]int {
		keep, number := make([][]int, disks), 0
		for d := range disks {
			for k := range s.Waits(d) {
				if kept(number) {
					keep[d] = append(keep[d], k)
				}
				number++
			}
		}
		return keep
	}
	if total <= 5 {
		for which := range 1 << total {
			then(of(func(number int) bool { return which>>number&1 == 1 }))
		}
		return
	}
	then(of(func(int) bool { return false }))
	then(of(func(int) bool { return true }))
	r := rand.New(rand.NewSource(int64(total)))
	for range 12 {
		then(of(func(int) bool { return r.Intn(2) == 0 }))
	}
	for one := range min(total, 12) {
		then(of(func(number int) bool { return number == one }))
		then(of(func(number int) bool { return number != one }))
	}
}

// someCrashes calls a function with states that a crash may leave.
func someCrashes(s *shelf.Shelf, then func(f *shelf.Shelf)) {
	keeps(s, func(keep [][]int) {
		f := s.Fork()
		f.Crash(keep)
		then(f)
	})
}

// write lets a disk's block say something, be it right or not, as long as it may be said.
func write(t *testing.T, s *shelf.Shelf, disk, block int, said api.Super) {
	t.Helper()
	b, e := super.Encode(said)
	done(t, e)
	put(t, s, disk, block, b)
}

// finds fails if there is no array, or one that is said otherwise (but for Disk).
func finds(t *testing.T, what string, s *shelf.Shelf, want api.Super) {
	t.Helper()
	v, e := Open(s)
	if e != api.OK {
		t.Errorf("%s: Open: %d", what, e)
		return
	}
	if !super.Alike(v.said, want) {
		t.Errorf("%s: Open found %+v, not %+v", what, v.said, want)
	}
	disks, _ := s.Size()
	for disk := range disks {
		if s.Dead(disk) {
			continue
		}
		want.Disk = disk
		says(t, s, disk, want.Gen&1, want)
		if s.Waits(disk) != 0 {
			t.Errorf("%s: behind Open %d writes of the disk %d wait", what, s.Waits(disk), disk)
		}
	}
}

// findsNothing fails if Open answers anything but an error.
func findsNothing(t *testing.T, what string, s *shelf.Shelf, want api.Errno) {
	t.Helper()
	v, e := Open(s)
	is(t, what, e, want)
	isNil(t, what, v)
}

func TestOpenOfNothing(t *testing.T) { // P8.2
	findsNothing(t, "no shelf", nil, api.ErrCode)
	findsNothing(t, "no disks", &shelf.Shelf{}, api.ErrCode)
	r := rand.New(rand.NewSource(5))
	for _, disks := range []int{1, 2, 3, 4, 16, 17} {
		findsNothing(t, "noughts", shelfOf(t, disks, 40), api.ErrCode)
		findsNothing(t, "anything", dirty(t, disks, 40, r), api.ErrCode)
		findsNothing(t, "one sector", shelfOf(t, disks, 1), api.ErrCode)
		s := shelfOf(t, disks, 40)
		s.Stop(0)
		findsNothing(t, "the power off", s, api.ErrOff)
	}
	x := shape{3, 2, 1, true}
	s, _ := x.full(t)
	s.Stop(0)
	findsNothing(t, "the power off", s, api.ErrOff)
	s.Crash(nil)
	for disk := range 4 {
		finds(t, "some dead", s, x.saidOf(0))
		done(t, s.Kill(disk))
	}
	findsNothing(t, "all dead", s, api.ErrCode)
	s.Stop(0)
	findsNothing(t, "all dead, and the power off", s, api.ErrOff)
}

func TestOpenFindsWhatWasCreated(t *testing.T) { // P8.2
	for _, x := range smalls() {
		s, _ := x.full(t)
		s.Crash(nil)
		for range 2 {
			v := again(t, s)
			isStatus(t, v, api.Status{Members: x.members, Stripes: x.stripes, Spare: -1})
			if v.Size() != x.blocks() || v.Spares() != x.spare {
				t.Errorf("%+v: Size %d, Spares %v", x, v.Size(), v.Spares())
			}
			hasAll(t, v, nil)
			allWhole(t, v)
		}
	}
}

func TestWhatADiskSaysHoldsOrNot(t *testing.T) { // P8.2: one disk alone says something
	with := func(change func(*api.Super)) api.Super {
		said := api.Super{Gen: 7, Members: 3, Disk: 1, Stripes: 5, Logs: 2, Spare: 0, Mark: 2, Cursor: 4}
		change(&said)
		return said
	}
	for _, c := range []struct {
		what        string
		disks, room int // blocks
		block       int
		said        api.Super
		holds       bool
	}{
		{"what holds", 4, 11, 1, with(func(*api.Super) {}), true},
		{"an even generation", 4, 11, 0, with(func(s *api.Super) { s.Gen = 8 }), true},
		{"an odd generation in the block 0", 4, 11, 0, with(func(*api.Super) {}), false},
		{"an even generation in the block 1", 4, 11, 1, with(func(s *api.Super) { s.Gen = 8 }), false},
		{"the last generation", 4, 11, 0, with(func(s *api.Super) { s.Gen = 1 << 62 }), true},
		{"in the block 2", 4, 11, 2, with(func(s *api.Super) { s.Gen = 8 }), false},
		{"in the block 3", 4, 11, 3, with(func(*api.Super) {}), false},
		{"one block too few", 4, 10, 1, with(func(*api.Super) {}), false},
		{"one stripe more than there is room", 4, 11, 1, with(func(s *api.Super) { s.Stripes = 6 }), false},
		{"one slot more than there is room", 4, 11, 1, with(func(s *api.Super) { s.Logs = 3 }), false},
		{"fewer stripes", 4, 11, 1, with(func(s *api.Super) { s.Stripes, s.Cursor = 4, 3 }), true},
		{"another disk's number", 4, 11, 1, with(func(s *api.Super) { s.Disk = 0 }), false},
		{"another disk's number too", 4, 11, 1, with(func(s *api.Super) { s.Disk = 2 }), false},
		{"the spare's number", 4, 11, 1, with(func(s *api.Super) { s.Disk = 3 }), false},
		{"as many members as disks, and a Spare", 3, 11, 1, with(func(*api.Super) {}), false},
		{"as many members as disks, and no Spare", 3, 11, 1, with(func(s *api.Super) { s.Spare, s.Mark = -1, 0 }), true},
		{"as many members as disks, too few blocks", 3, 10, 1, with(func(s *api.Super) { s.Spare, s.Mark = -1, 0 }), false},
		{"a spare that stands for nobody", 4, 11, 1, with(func(s *api.Super) { s.Spare, s.Mark = -1, 0 }), true},
		{"more members than disks", 4, 11, 1, with(func(s *api.Super) { s.Members = 5 }), false},
		{"members as disks", 4, 11, 1, with(func(s *api.Super) { s.Members, s.Spare, s.Mark = 4, -1, 0 }), true},
		{"two members fewer than disks", 5, 11, 1, with(func(*api.Super) {}), false},
		{"two members fewer than disks, no Spare", 5, 11, 1, with(func(s *api.Super) { s.Spare, s.Mark = -1, 0 }), false},
		{"two disks", 2, 11, 1, with(func(s *api.Super) { s.Spare, s.Mark = -1, 0 }), false},
		{"17 disks", 17, 11, 1, with(func(s *api.Super) { s.Members = 16 }), true},
		{"16 disks", 16, 11, 1, with(func(s *api.Super) { s.Members, s.Spare, s.Mark = 16, -1, 0 }), true},
		{"16 disks and a Spare", 16, 11, 1, with(func(s *api.Super) { s.Members = 16 }), false},
	} {
		s := shelfOf(t, c.disks, sectorsFor(c.room))
		write(t, s, 1, c.block, c.said)
		f := s.Fork()
		if c.holds {
			finds(t, c.what, s, c.said)
		} else {
			findsNothing(t, c.what, s, api.ErrCode)
		}
		if c.block < 2 {
			turn(t, f, 1, c.block) // of a bad block nothing holds
			findsNothing(t, "a bad block: "+c.what, f, api.ErrCode)
		}
	}
}

func TestBytesThatSayNothing(t *testing.T) { // P8.2: blocks that are good, and say nothing
	x := shape{3, 2, 1, false}
	b, e := super.Encode(x.saidOf(1))
	done(t, e)
	for at := range api.Sector {
		other := bytes.Clone(b)
		other[at] ^= 0x11
		s := x.shelf(t)
		put(t, s, 1, 1, other)
		findsNothing(t, "another byte", s, api.ErrCode)
	}
}

func TestTheNewestCounts(t *testing.T) { // P8.2, R7
	old := api.Super{Gen: 4, Members: 3, Stripes: 5, Logs: 2, Spare: -1, Cursor: 1}
	later := func(gen, cursor int) api.Super {
		s := old
		s.Gen, s.Cursor = gen, cursor
		return s
	}
	for _, c := range []struct {
		what  string
		slots [3]map[int]api.Super // of each disk
		want  api.Super
	}{
		{"one is newer", [3]map[int]api.Super{{0: old}, {0: old, 1: later(5, 2)}, {0: old}}, later(5, 2)},
		{"the first is newer", [3]map[int]api.Super{{0: old, 1: later(5, 2)}, {0: old}, {0: old}}, later(5, 2)},
		{"the last is newer", [3]map[int]api.Super{{0: old}, {0: old}, {0: old, 1: later(5, 2)}}, later(5, 2)},
		{"all are newer", [3]map[int]api.Super{{0: old, 1: later(5, 2)}, {0: old, 1: later(5, 2)}, {0: old, 1: later(5, 2)}}, later(5, 2)},
		{"one is older", [3]map[int]api.Super{{1: later(3, 2)}, {0: old}, {0: old}}, old},
		{"all differ", [3]map[int]api.Super{{0: old}, {0: later(90, 0)}, {1: later(31, 4)}}, later(90, 0)},
		{"several of one: the first disk's", [3]map[int]api.Super{{0: old}, {0: later(4, 2)}, {0: later(4, 3)}}, old},
		{"the second disk's", [3]map[int]api.Super{{}, {0: later(4, 2)}, {0: old}}, later(4, 2)},
		{"the newest of several", [3]map[int]api.Super{{0: old}, {1: later(5, 2)}, {1: later(5, 3)}}, later(5, 2)},
		{"one alone", [3]map[int]api.Super{{}, {}, {0: old}}, old},
	} {
		s := shelfOf(t, 3, sectorsFor(11))
		for disk, slots := range c.slots {
			for block, said := range slots {
				said.Disk = disk
				write(t, s, disk, block, said)
			}
		}
		was := sectorsOf(t, s)
		finds(t, c.what, s, c.want)
		for disk, all := range sectorsOf(t, s) {
			other := 2 - c.want.Gen&1 // the sector of the other slot: that stays
			if !bytes.Equal(all[other], was[disk][other]) {
				t.Errorf("%s: the disk %d's other slot changed", c.what, disk)
			}
			said := c.want
			said.Disk = disk
			if c.slots[disk][c.want.Gen&1] == said || !super.Alike(c.slots[disk][c.want.Gen&1], c.want) {
				continue
			}
			if !bytes.Equal(all[c.want.Gen&1+1], was[disk][c.want.Gen&1+1]) {
				t.Errorf("%s: the disk %d says it anew", c.what, disk)
			}
		}
	}
}

func TestDisksThatWereExchanged(t *testing.T) { // P8.2
	x := shape{3, 2, 1, true}
	for _, c := range [][4]int{{1, 0, 2, 3}, {0, 2, 1, 3}, {0, 1, 3, 2}, {1, 2, 0, 3}, {0, 0, 0, 0}, {3, 3, 3, 3}, {1, 0, 3, 2}, {3, 0, 1, 2}} {
		s := x.shelf(t)
		right := false
		for disk, number := range c {
			write(t, s, disk, 1, x.saidOf(number))
			right = right || disk == number
		}
		if !right {
			findsNothing(t, "all exchanged", s, api.ErrCode)
			continue
		}
		finds(t, "some exchanged", s, x.saidOf(0)) // and each says its own number behind it
	}
	// Sectors that stand on another disk are bad there.
	s, _ := x.full(t)
	f := s.Fork()
	for n, b := range sectorsOf(t, s)[0] {
		done(t, f.Write(2, n, b))
		done(t, f.Write(0, n, sectorsOf(t, s)[2][n]))
	}
	finds(t, "two disks exchanged", f, x.saidOf(0))
	v := again(t, f)
	for n := range v.Size() {
		if b, e := v.Read(n); e != api.ErrIo && (e != api.OK || !bytes.Equal(b, text(1000+n))) {
			t.Errorf("Read(%d) = %x, %d", n, b[:4], e)
		}
	}
}

func TestOpenLeavesAloneWhatIsSo(t *testing.T) { // P8.2
	for _, x := range smalls() {
		s, _ := x.full(t)
		was := sectorsOf(t, s)
		n := spends(s, func() { again(t, s) })
		// Both slots of each disk, and that of the newest again, the logs, a flush.
		if want := x.disks() * (2*2 + 2 + 2*x.logs + 1); n != want {
			t.Errorf("%+v: Open took %d reads, writes and flushes, not %d", x, n, want)
		}
		for d, all := range sectorsOf(t, s) {
			for k, b := range all {
				if !bytes.Equal(b, was[d][k]) {
					t.Errorf("%+v: the disk %d's sector %d changed", x, d, k)
				}
			}
		}
	}
}

func TestDisksThatLaggedAreMadeToSayIt(t *testing.T) { // P8.2
	x := shape{3, 2, 1, true}
	s, v := x.full(t)
	for gen := 2; gen <= 5; gen++ {
		for stop := range 4*4 + 1 {
			f := s.Fork()
			w := again(t, f)
			f.Stop(stop)
			w.Save(-1, 0, gen%2)
			someCrashes(f, func(f *shelf.Shelf) {
				w := again(t, f)
				said := w.said
				if said.Gen != gen && (said.Gen != gen-1 || stop > 4) {
					t.Errorf("the generation %d, and the power off behind %d", said.Gen, stop)
				}
				for disk := range 4 {
					said.Disk = disk
					says(t, f, disk, said.Gen&1, said)
				}
				hasAll(t, w, nil)
			})
		}
		done(t, v.Save(-1, 0, gen%2))
	}
}

func TestADeadDiskSaysNothing(t *testing.T) { // P8.2
	x := shape{3, 2, 1, true}
	for dead := range 4 {
		s, v := x.full(t)
		done(t, v.Save(-1, 0, 1))
		newer := x.saidOf(dead)
		newer.Gen = 9
		write(t, s, dead, 1, newer) // which nobody reads any more
		done(t, s.Kill(dead))
		want := x.saidOf(0)
		want.Gen, want.Cursor = 2, 1
		finds(t, "one is dead", s, want)
		hasAll(t, again(t, s), nil)
	}
}

// A find is a record that an Open comes upon.
type find struct {
	what          string
	disk          int // on whose log it stands
	stripe, place int
	applies       bool
	do            func(t *testing.T, s *shelf.Shelf) // what else happened
}

// finds4 are records of an array of 4 members and 6 stripes; the stripe 1's parity lies on the disk 2, its data on 3, 0, 1.
func finds4() []find {
	return []find{
		{"the place 0", 2, 1, 0, true, nil},
		{"the place 1", 2, 1, 1, true, nil},
		{"the last place", 2, 1, 2, true, nil},
		{"the parity as a place", 2, 1, 3, false, nil},
		{"a place that there is not", 2, 1, 14, false, nil},
		{"another disk's stripe", 1, 1, 0, false, nil},
		{"a disk of the stripe's data", 3, 1, 0, false, nil},
		{"the spare's log", 4, 1, 0, false, nil},
		{"a stripe with a parity elsewhere", 2, 2, 0, false, nil},
		{"the first stripe", 3, 0, 1, true, nil},
		{"the last stripe", 2, 5, 1, true, nil},
		{"a stripe that there is not", 1, 6, 1, false, nil},
		{"the last stripe that there may be", 0, 1023, 1, false, nil},
		{"the block's disk dead", 2, 1, 0, false, func(t *testing.T, s *shelf.Shelf) { done(t, s.Kill(3)) }},
		{"the block bad", 2, 1, 0, false, func(t *testing.T, s *shelf.Shelf) { turn(t, s, 3, 5) }},
		{"another one bad", 2, 1, 0, true, func(t *testing.T, s *shelf.Shelf) { turn(t, s, 0, 5) }},
		{"another one dead", 2, 1, 0, true, func(t *testing.T, s *shelf.Shelf) { done(t, s.Kill(0)) }},
		{"the parity bad", 2, 1, 0, true, func(t *testing.T, s *shelf.Shelf) { turn(t, s, 2, 5) }},
		{"the parity dead", 2, 1, 0, false, func(t *testing.T, s *shelf.Shelf) { done(t, s.Kill(2)) }},
		{"a bad head", 2, 1, 0, false, func(t *testing.T, s *shelf.Shelf) { turn(t, s, 2, 2) }},
		{"a bad part", 2, 1, 0, false, func(t *testing.T, s *shelf.Shelf) { turn(t, s, 2, 3) }},
		{"no head", 2, 1, 0, false, func(t *testing.T, s *shelf.Shelf) { put(t, s, 2, 2, text(1)) }},
		{"another part", 2, 1, 0, false, func(t *testing.T, s *shelf.Shelf) { put(t, s, 2, 3, text(1)) }},
	}
}

// record4 is the one that a disk's first slot has.
func record4(t *testing.T, s *shelf.Shelf, f find) {
	t.Helper()
	head, e := ppl.Encode(api.Record{Stripe: f.stripe, Place: f.place, Part: text(4444)})
	done(t, e)
	put(t, s, f.disk, 3, text(4444))
	put(t, s, f.disk, 2, head)
}

func TestRecordsAreGoneThrough(t *testing.T) { // P8.2
	x := shape{4, 6, 1, true}
	for _, f := range finds4() {
		s, _ := x.full(t)
		record4(t, s, f)
		if f.do != nil {
			f.do(t, s)
		}
		// What each stripe's parity has, before and behind, is read on the disks themselves.
		was := parities(t, s, x)
		v := again(t, s)
		now := parities(t, s, x)
		for stripe := range x.stripes {
			want := was[stripe]
			if f.applies && stripe == f.stripe {
				want = together(text(4444), text(1000+3*stripe+f.place))
			}
			if !bytes.Equal(now[stripe], want) {
				t.Errorf("%s: the stripe %d's parity is %x, not %x", f.what, stripe, now[stripe], want)
			}
		}
		noSlots(t, f.what, s, x)
		if waits(s) != 0 || len(v.used)+len(v.open) != 0 {
			t.Errorf("%s: something is left to be flushed", f.what)
		}
	}
}

// parities are those of all stripes: nil, if it is dead, or bad.
func parities(t *testing.T, s *shelf.Shelf, x shape) [][]byte {
	t.Helper()
	var all [][]byte
	for stripe := range x.stripes {
		p, e := lay.Parity(x.members, stripe)
		done(t, e)
		d, e := sums.Open(s, p)
		done(t, e)
		b, _ := d.Read(x.base() + stripe)
		all = append(all, b)
	}
	return all
}

// noSlots fails if a slot of a disk that lives has a head.
func noSlots(t *testing.T, what string, s *shelf.Shelf, x shape) {
	t.Helper()
	for disk := range x.disks() {
		for k := range x.logs {
			if !s.Dead(disk) && !bytes.Equal(raw(t, s, disk, 2+2*k), noughts()) {
				t.Errorf("%s: the disk %d's slot %d is not clear", what, disk, k)
			}
		}
	}
}

func TestARecordOnTheSpare(t *testing.T) { // P8.2: the spare has the parities of the stripes below Mark
	x := shape{4, 6, 1, true}
	for _, c := range []struct {
		disk, mark int
		applies    bool
	}{
		{4, 1, false}, {2, 1, true}, {4, 2, true}, {2, 2, false}, {4, 6, true}, {2, 6, false},
	} {
		s, v := x.full(t)
		for stripe := range 6 {
			done(t, v.Save(2, 0, 0))
			done(t, v.Fill(stripe))
		}
		done(t, v.Save(2, c.mark, 0))
		record4(t, s, find{disk: c.disk, stripe: 1, place: 0})
		again(t, s)
		on := 2
		if c.mark > 1 {
			on = 4
		}
		want := together(text(1003), text(1004), text(1005))
		if c.applies {
			want = together(text(4444), text(1003))
		}
		if !bytes.Equal(raw(t, s, on, x.base()+1), want) {
			t.Errorf("%+v: the parity is %x", c, raw(t, s, on, x.base()+1))
		}
		noSlots(t, "a record on the spare", s, x)
	}
}

func TestABlockOnTheSpareCounts(t *testing.T) { // P8.2: the record's block lies on the spare
	x := shape{4, 6, 1, true}
	for _, mark := range []int{1, 2} {
		s, v := x.full(t)
		done(t, v.Save(3, 0, 0))
		for stripe := range 2 {
			done(t, v.Fill(stripe))
		}
		done(t, v.Save(3, mark, 0))
		done(t, s.Kill(3))
		record4(t, s, find{disk: 2, stripe: 1, place: 0})
		again(t, s)
		want := together(text(1003), text(1004), text(1005))
		if mark > 1 {
			want = together(text(4444), text(1003))
		}
		if !bytes.Equal(raw(t, s, 2, x.base()+1), want) {
			t.Errorf("Mark %d: the parity is %x", mark, raw(t, s, 2, x.base()+1))
		}
	}
}

func TestRecordsOfAllSlots(t *testing.T) { // P8.2
	x := shape{3, 9, 8, true}
	for which := range 1 << 8 {
		s, _ := x.full(t)
		d, e := sums.Open(s, 2) // which has the parities of the stripes 0, 3 and 6
		done(t, e)
		l, e := ppl.Open(d, 8)
		done(t, e)
		last := map[int]api.Record{}
		for slot := range 8 {
			if which>>slot&1 == 1 {
				r := api.Record{Stripe: slot % 3 * 3, Place: slot % 2, Part: text(6000 + slot)}
				last[r.Stripe] = r // slot by slot: the last one of a stripe is done last
				done(t, l.Put(slot, r))
			}
		}
		done(t, d.Flush())
		again(t, s)
		for stripe := 0; stripe < 9; stripe += 3 {
			want := together(text(1000+2*stripe), text(1001+2*stripe))
			if r, some := last[stripe]; some {
				want = together(r.Part, text(1000+2*stripe+r.Place))
			}
			if !bytes.Equal(raw(t, s, 2, x.base()+stripe), want) {
				t.Errorf("of the slots %b the stripe %d has the parity %x", which, stripe, raw(t, s, 2, x.base()+stripe))
			}
		}
		noSlots(t, "many records", s, x)
	}
}

func TestAParityThatIsSoAlreadyIsLeftAlone(t *testing.T) { // P8.2
	x := shape{3, 2, 1, false}
	s, _ := x.full(t)
	part := text(1000) // of the stripe 0, whose parity lies on the disk 2
	head, e := ppl.Encode(api.Record{Stripe: 0, Place: 1, Part: part})
	done(t, e)
	put(t, s, 2, 3, part)
	put(t, s, 2, 2, head)
	n := spends(s, func() { again(t, s) })
	// As ever; a record's part, its block and its parity; the slot's Clear, and a second flush of all.
	if want := 3*(2*2+2+2+1) + 2 + 2 + 2 + 5 + 3; n != want {
		t.Errorf("Open took %d, not %d", n, want)
	}
	hasAll(t, again(t, s), nil)
	allWhole(t, again(t, s))
}

func TestTheSlotsAreClearedBehindAFlush(t *testing.T) { // P8.2, P8.8: a crash in the middle does no harm
	x := shape{4, 6, 2, true}
	for _, f := range finds4() {
		s, _ := x.full(t)
		record4(t, s, f)
		if f.do != nil {
			f.do(t, s)
		}
		first := s.Fork()
		again(t, first)
		want := parities(t, first, x)
		for n, over := 0, false; !over; n++ {
			g := s.Fork()
			g.Stop(n)
			v, e := Open(g)
			over = e == api.OK
			if !over {
				is(t, f.what, e, api.ErrOff)
				isNil(t, f.what, v)
			}
			someCrashes(g, func(h *shelf.Shelf) {
				again(t, h)
				for stripe, b := range parities(t, h, x) {
					if !bytes.Equal(b, want[stripe]) {
						t.Errorf("%s: behind a crash in Open at %d the stripe %d's parity is %x, not %x", f.what, n, stripe, b, want[stripe])
					}
				}
				noSlots(t, f.what, h, x)
			})
		}
	}
}

// lagging is an array of which one disk says a newer generation.
func lagging(t *testing.T, x shape) *shelf.Shelf {
	t.Helper()
	s, v := x.full(t)
	done(t, v.Save(-1, 0, 1))
	said := x.saidOf(1)
	said.Gen = 7
	write(t, s, 1, 1, said)
	return s
}

// torn is an array of which some stripes were being written with the bytes that they have, when the power went.
func torn(t *testing.T, x shape, kept int) *shelf.Shelf {
	t.Helper()
	s, v := x.full(t)
	done(t, v.Write(1, text(1001)))
	done(t, v.Write(3, text(1003)))
	done(t, v.Write(4, text(1004)))
	number := 0
	keep := make([][]int, x.disks())
	for d := range keep {
		for k := range s.Waits(d) {
			if number%3 == kept {
				keep[d] = append(keep[d], k)
			}
			number++
		}
	}
	s.Crash(keep)
	return s
}

func TestWhatOpenIsRefusedIsTold(t *testing.T) { // P8.2, P8.8
	x := shape{3, 3, 2, true}
	for _, first := range []*shelf.Shelf{lagging(t, x), torn(t, x, 0), torn(t, x, 1), torn(t, x, 2)} {
		for dead := -1; dead < 4; dead++ {
			for n, over := 0, false; !over; n++ {
				s := first.Fork()
				s.Stop(n)
				if dead >= 0 {
					done(t, s.Kill(dead))
				}
				v, e := Open(s)
				over = e == api.OK
				if !over {
					is(t, "Open", e, api.ErrOff)
					isNil(t, "Open", v)
				}
				someCrashes(s, func(f *shelf.Shelf) {
					v := again(t, f)
					hasAll(t, v, nil)
					if dead < 0 || dead == 3 {
						allWhole(t, v)
					}
				})
			}
		}
	}
}
