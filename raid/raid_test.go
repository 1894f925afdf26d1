package raid

import (
	"bytes"
	"math"
	"math/rand"
	"slices"
	"testing"

	"ashlar/api"
	"ashlar/lay"
	"ashlar/shelf"
	"ashlar/sums"
	"ashlar/super"
)

// edges are whole numbers at which a call may go wrong.
func edges() []int {
	return []int{
		math.MinInt, math.MinInt + 1, -1 << 62, -1 << 32, -1025, -1024, -256, -17, -16, -9, -8, -3, -2, -1,
		0, 1, 2, 3, 4, 5, 6, 7, 8, 9, 15, 16, 17, 18, 127, 128, 255, 256, 257, 1022, 1023, 1024, 1025,
		1<<16 - 1, 1 << 16, 1<<31 - 1, 1 << 31, 1<<32 - 1, 1 << 32, 1<<32 + 1, 1<<62 - 1, 1 << 62,
		math.MaxInt - 1, math.MaxInt,
	}
}

// text is a block of which each byte is another one.
func text(x int) []byte {
	b := make([]byte, api.Sector)
	for i := range b {
		b[i] = byte(x + i)
	}
	b[0], b[1] = byte(x>>8), byte(x>>16)
	return b
}

func noughts() []byte { return make([]byte, api.Sector) }

// together puts blocks together.
func together(blocks ...[]byte) []byte {
	sum := noughts()
	for _, b := range blocks {
		for i := range sum {
			sum[i] ^= b[i]
		}
	}
	return sum
}

// done fails if a call was refused.
func done(t *testing.T, e api.Errno) {
	t.Helper()
	if e != api.OK {
		t.Fatalf("error %d", e)
	}
}

// is fails if a call answers another error than the one that is asked for.
func is(t *testing.T, what string, got, want api.Errno) {
	t.Helper()
	if got != want {
		t.Errorf("%s: %d, not %d", what, got, want)
	}
}

func shelfOf(t *testing.T, disks, sectors int) *shelf.Shelf {
	t.Helper()
	s, e := shelf.New(disks, sectors)
	done(t, e)
	return s
}

// sectorsFor is how many sectors just have so many blocks.
func sectorsFor(blocks int) int {
	return blocks + (blocks+15)/16
}

// A shape is an array's numbers.
type shape struct {
	members, stripes, logs int
	spare                  bool
}

func (x shape) disks() int {
	if x.spare {
		return x.members + 1
	}
	return x.members
}

func (x shape) base() int   { return 2 + 2*x.logs }
func (x shape) need() int   { return x.base() + x.stripes }
func (x shape) blocks() int { return x.stripes * (x.members - 1) }

// shelf is one on which the array just has room.
func (x shape) shelf(t *testing.T) *shelf.Shelf {
	t.Helper()
	return shelfOf(t, x.disks(), sectorsFor(x.need()))
}

// create is a new array.
func (x shape) create(t *testing.T) (*shelf.Shelf, *Volume) {
	t.Helper()
	s := x.shelf(t)
	v, e := Create(s, x.members, x.stripes, x.logs)
	if e != api.OK || v == nil {
		t.Fatalf("Create(%+v) = %v, %d", x, v, e)
	}
	return s, v
}

// full is an array of which each block has a text of its own: the block n that of 1000 + n.
func (x shape) full(t *testing.T) (*shelf.Shelf, *Volume) {
	t.Helper()
	s, v := x.create(t)
	for n := range x.blocks() {
		done(t, v.Write(n, text(1000+n)))
	}
	done(t, v.Flush())
	return s, v
}

// again opens an array.
func again(t *testing.T, s *shelf.Shelf) *Volume {
	t.Helper()
	v, e := Open(s)
	if e != api.OK || v == nil {
		t.Fatalf("Open = %v, %d", v, e)
	}
	return v
}

// has fails if a block has other bytes.
func has(t *testing.T, v *Volume, n int, want []byte) {
	t.Helper()
	if b, e := v.Read(n); e != api.OK || !bytes.Equal(b, want) {
		t.Errorf("Read(%d) = %x.., %d, not %x..", n, b[:min(4, len(b))], e, want[:4])
	}
}

// refuses fails if a block is read, or isn't for another cause.
func refuses(t *testing.T, v *Volume, n int, want api.Errno) {
	t.Helper()
	if b, e := v.Read(n); e != want || b != nil {
		t.Errorf("Read(%d) = %x.., %d, not %d", n, b[:min(4, len(b))], e, want)
	}
}

// hasAll fails if a full array's blocks have other bytes than at first, but for some.
func hasAll(t *testing.T, v *Volume, but map[int][]byte) {
	t.Helper()
	for n := range v.Size() {
		want, other := but[n]
		if !other {
			want = text(1000 + n)
		}
		has(t, v, n, want)
	}
}

// whole fails if Whole of a stripe answers otherwise.
func whole(t *testing.T, v *Volume, stripe int, want bool) {
	t.Helper()
	if w, e := v.Whole(stripe); e != api.OK || w != want {
		t.Errorf("Whole(%d) = %v, %d, not %v", stripe, w, e, want)
	}
}

func allWhole(t *testing.T, v *Volume) {
	t.Helper()
	for stripe := range v.Status().Stripes {
		whole(t, v, stripe, true)
	}
}

// raw is what a disk's block has.
func raw(t *testing.T, s *shelf.Shelf, disk, block int) []byte {
	t.Helper()
	d, e := sums.Open(s, disk)
	done(t, e)
	b, e := d.Read(block)
	done(t, e)
	return b
}

// lay down a disk's block, surely.
func put(t *testing.T, s *shelf.Shelf, disk, block int, b []byte) {
	t.Helper()
	d, e := sums.Open(s, disk)
	done(t, e)
	done(t, d.Write(block, b))
	done(t, d.Flush())
}

// turn turns a byte of a disk's block, which is bad then.
func turn(t *testing.T, s *shelf.Shelf, disk, block int) {
	t.Helper()
	_, at, e := sums.Place(block)
	done(t, e)
	done(t, s.Corrupt(disk, at, 77, 0x40))
}

// turnSums turns a byte in each of the block's sums.
func turnSums(t *testing.T, s *shelf.Shelf, disk, block int) {
	t.Helper()
	at, _, e := sums.Place(block)
	done(t, e)
	done(t, s.Corrupt(disk, at, 8*(block%16)+1, 0x40))
	done(t, s.Corrupt(disk, at, 8*(block%16)+6, 0x40))
}

// isGood fails if a disk's block is bad, though it should not be, or the other way round.
func isGood(t *testing.T, s *shelf.Shelf, disk, block int, want bool) {
	t.Helper()
	d, e := sums.Open(s, disk)
	done(t, e)
	_, e = d.Read(block)
	if (e == api.OK) != want {
		t.Errorf("the disk %d's block %d: error %d", disk, block, e)
	}
}

// spends is how many of the shelf's reads, writes and flushes a call takes.
func spends(s *shelf.Shelf, call func()) int {
	before := s.Count()
	call()
	return s.Count() - before
}

// sectorsOf is what all sectors of a shelf have that has power, and no dead disk.
func sectorsOf(t *testing.T, s *shelf.Shelf) [][][]byte {
	t.Helper()
	disks, sectors := s.Size()
	all := make([][][]byte, disks)
	for d := range disks {
		for n := range sectors {
			b, e := s.Read(d, n)
			done(t, e)
			all[d] = append(all[d], b)
		}
	}
	return all
}

// waits is how many writes wait on all disks.
func waits(s *shelf.Shelf) int {
	disks, _ := s.Size()
	n := 0
	for d := range disks {
		n += s.Waits(d)
	}
	return n
}

// saidOf is what an array's disks say at first, each with its own number.
func (x shape) saidOf(disk int) api.Super {
	return api.Super{Gen: 1, Members: x.members, Disk: disk, Stripes: x.stripes, Logs: x.logs, Spare: -1}
}

// says fails if a disk's block is not what says it.
func says(t *testing.T, s *shelf.Shelf, disk, block int, want api.Super) {
	t.Helper()
	if got, e := super.Decode(raw(t, s, disk, block)); e != api.OK || got != want {
		t.Errorf("the disk %d says in %d: %+v, %d, not %+v", disk, block, got, e, want)
	}
}

func isNil(t *testing.T, what string, v *Volume) {
	t.Helper()
	if v != nil {
		t.Errorf("%s: there is a volume beside the error", what)
	}
}

func same(a, b api.Status) bool {
	return a.Members == b.Members && a.Stripes == b.Stripes && slices.Equal(a.Dead, b.Dead) &&
		a.Spare == b.Spare && a.Mark == b.Mark && a.Cursor == b.Cursor
}

// isStatus fails if an array is otherwise.
func isStatus(t *testing.T, v *Volume, want api.Status) {
	t.Helper()
	if got := v.Status(); !same(got, want) {
		t.Errorf("Status = %+v, not %+v", got, want)
	}
}

// smalls are arrays of all kinds that are gone through quickly.
func smalls() []shape {
	return []shape{
		{3, 1, 1, false}, {3, 1, 1, true}, {3, 4, 1, false}, {3, 5, 2, true}, {4, 6, 2, false}, {4, 5, 1, true},
		{5, 7, 8, true}, {16, 2, 1, false}, {16, 17, 2, true},
	}
}

func TestExample(t *testing.T) { // the chapter's example
	s, v := shape{3, 1, 1, false}.create(t)
	b := text(5)
	done(t, v.Write(0, b))
	done(t, v.Flush())
	done(t, s.Kill(0))
	has(t, v, 0, b)
}

func TestCreateTakesAndRefusesAtEachEdge(t *testing.T) { // P8.1, R1
	for _, x := range edges() {
		s := shelfOf(t, 5, 1200)
		for _, c := range []struct {
			members, stripes, logs int
			may                    bool
		}{
			{x, 3, 2, x == 4 || x == 5},
			{4, x, 2, x >= 1 && x <= 1024},
			{4, 3, x, x >= 1 && x <= 8},
			{5, x, x, x >= 1 && x <= 8},
			{x, x, x, x == 4 || x == 5},
		} {
			count := s.Count()
			v, e := Create(s, c.members, c.stripes, c.logs)
			switch {
			case c.may && (e != api.OK || v == nil || v.Size() != c.stripes*(c.members-1)):
				t.Errorf("Create(%+v) = %v, %d", c, v, e)
			case !c.may && (e != api.ErrArg || v != nil || s.Count() != count):
				t.Errorf("Create(%+v) = %v, %d", c, v, e)
			}
		}
	}
}

func TestCreateAsksForTheRightDisks(t *testing.T) { // P8.1
	for disks := 1; disks <= 17; disks++ {
		for members := range 19 {
			s := shelfOf(t, disks, 30)
			v, e := Create(s, members, 2, 1)
			may := members >= 3 && members <= 16 && (disks == members || disks == members+1)
			if may != (e == api.OK) || may != (v != nil) || !may && e != api.ErrArg {
				t.Errorf("%d members on %d disks: %v, %d", members, disks, v, e)
			}
			if may && v.Spares() != (disks == members+1) {
				t.Errorf("%d members on %d disks: %v", members, disks, v.Spares())
			}
		}
	}
	v, e := Create(nil, 3, 1, 1)
	is(t, "Create on no shelf", e, api.ErrArg)
	isNil(t, "Create on no shelf", v)
	for _, x := range edges() {
		v, e := Create(nil, x, x, x)
		is(t, "Create on no shelf", e, api.ErrArg)
		isNil(t, "Create on no shelf", v)
		v, e = Create(&shelf.Shelf{}, x, 1, 1)
		is(t, "Create on a shelf without disks", e, api.ErrArg)
		isNil(t, "Create on a shelf without disks", v)
	}
}

func TestCreateAsksForEnoughBlocks(t *testing.T) { // P8.1
	for _, logs := range []int{1, 2, 7, 8} {
		for _, stripes := range []int{1, 2, 11, 12, 13, 14, 28, 29, 30, 31, 1024} {
			x := shape{3, stripes, logs, false}
			enough := sectorsFor(x.need())
			for _, disks := range []int{3, 4} {
				for sectors := enough - 2; sectors <= enough+1; sectors++ {
					s := shelfOf(t, disks, sectors)
					v, e := Create(s, 3, stripes, logs)
					may := sums.Blocks(sectors) >= x.need()
					if may != (sectors >= enough) || may != (e == api.OK) || may != (v != nil) || !may && e != api.ErrArg {
						t.Errorf("%+v on %d sectors: %v, %d", x, sectors, v, e)
					}
				}
			}
		}
	}
	s := shelfOf(t, 3, 1)
	_, e := Create(s, 3, 1, 1)
	is(t, "Create without blocks", e, api.ErrArg)
}

func TestCreateRefusesTheDeadAndThePowerless(t *testing.T) { // P8.1, R2
	for _, x := range smalls() {
		for dead := range x.disks() {
			s := x.shelf(t)
			done(t, s.Kill(dead))
			for range 2 {
				v, e := Create(s, x.members, x.stripes, x.logs)
				is(t, "Create on a dead disk", e, api.ErrDead)
				isNil(t, "Create on a dead disk", v)
				_, e = Create(s, x.members, x.stripes, 9)
				is(t, "Create of what may not be, on a dead disk", e, api.ErrArg)
				_, e = Create(s, x.members, x.stripes+1000, x.logs)
				is(t, "Create of too much, on a dead disk", e, api.ErrArg)
				s.Stop(0)
			}
			if s.Count() != 0 {
				t.Error("what is refused reads, or writes")
			}
		}
		s := x.shelf(t)
		s.Stop(0)
		v, e := Create(s, x.members, x.stripes, x.logs)
		is(t, "Create without power", e, api.ErrOff)
		isNil(t, "Create without power", v)
	}
}

// dirty is a shelf with something in all sectors.
func dirty(t *testing.T, disks, sectors int, r *rand.Rand) *shelf.Shelf {
	t.Helper()
	s := shelfOf(t, disks, sectors)
	for d := range disks {
		for n := range sectors {
			b := make([]byte, api.Sector)
			r.Read(b)
			done(t, s.Write(d, n, b))
		}
		done(t, s.Flush(d))
	}
	return s
}

// isNew fails if an array is not as it was made.
func isNew(t *testing.T, s *shelf.Shelf, v *Volume, x shape) {
	t.Helper()
	if waits(s) != 0 {
		t.Errorf("%d writes wait", waits(s))
	}
	for disk := range x.disks() {
		for block := range x.need() {
			if block == 1 {
				says(t, s, disk, 1, x.saidOf(disk))
			} else if !bytes.Equal(raw(t, s, disk, block), noughts()) {
				t.Errorf("the disk %d's block %d has no noughts", disk, block)
			}
		}
	}
	isStatus(t, v, api.Status{Members: x.members, Stripes: x.stripes, Spare: -1})
	if v.Size() != x.blocks() || v.Spares() != x.spare {
		t.Errorf("%+v: Size %d, Spares %v", x, v.Size(), v.Spares())
	}
	for n := range v.Size() {
		has(t, v, n, noughts())
	}
	allWhole(t, v)
}

func TestCreateMakesNoughts(t *testing.T) { // P8.1
	r := rand.New(rand.NewSource(3))
	for _, x := range smalls() {
		sectors := sectorsFor(x.need()) + 20
		s := dirty(t, x.disks(), sectors, r)
		was := sectorsOf(t, s)
		v, e := Create(s, x.members, x.stripes, x.logs)
		done(t, e)
		isNew(t, s, v, x)
		for d, all := range sectorsOf(t, s) {
			for n := sectorsFor(x.need()) + 1; n < sectors; n++ {
				if n%17 != 0 && !bytes.Equal(all[n], was[d][n]) {
					t.Errorf("%+v: the disk %d's sector %d changed, though the array does not need it", x, d, n)
				}
			}
		}
	}
}

func TestCreateOverAnArray(t *testing.T) { // P8.1
	for _, x := range smalls() {
		for _, y := range smalls() {
			if x.disks() != y.disks() {
				continue
			}
			s := shelfOf(t, x.disks(), sectorsFor(max(x.need(), y.need())))
			v, e := Create(s, x.members, x.stripes, x.logs)
			done(t, e)
			for n := range v.Size() {
				done(t, v.Write(n, text(n)))
			}
			done(t, v.Save(-1, 0, x.stripes-1)) // an older array's generations are greater
			done(t, v.Save(-1, 0, 0))
			w, e := Create(s, y.members, y.stripes, y.logs)
			done(t, e)
			isNew(t, s, w, y)
			isNew(t, s, again(t, s), y)
		}
	}
}

func TestCreateLeavesNoughtsAlone(t *testing.T) { // P8.1
	for _, x := range smalls() {
		s := x.shelf(t)
		v, e := Create(s, x.members, x.stripes, x.logs)
		done(t, e)
		if n := s.Count(); n != x.disks()*(2*x.need()+1+5+1) { // each is read, flushed, and says in a write that is flushed
			t.Errorf("%+v: %d reads, writes and flushes", x, n)
		}
		for d, all := range sectorsOf(t, s) {
			for n, b := range all {
				if said := n == 0 || n == 2; said == bytes.Equal(b, noughts()) {
					t.Errorf("%+v: the disk %d's sector %d", x, d, n)
				}
			}
		}
		isNew(t, s, v, x)
		put(t, s, 1, x.need()-1, text(1)) // of one disk one is none of noughts
		turn(t, s, 2, 1)
		v, e = Create(s, x.members, x.stripes, x.logs)
		done(t, e)
		isNew(t, s, v, x)
	}
}

func TestWhatCreateIsRefusedIsTold(t *testing.T) { // P8.1
	r := rand.New(rand.NewSource(4))
	x := shape{3, 2, 1, true}
	shelves := []*shelf.Shelf{x.shelf(t), dirty(t, x.disks(), sectorsFor(x.need()), r)}
	old, _ := x.full(t)
	for _, first := range append(shelves, old) {
		for n, over := 0, false; !over; n++ {
			s := first.Fork()
			s.Stop(n)
			v, e := Create(s, 3, 2, 1)
			over = e == api.OK
			if over {
				s.Crash(nil)
				isNew(t, s, again(t, s), x)
				continue
			}
			is(t, "Create", e, api.ErrOff)
			isNil(t, "Create", v)
			someCrashes(s, func(f *shelf.Shelf) {
				if w, e := Open(f); e != api.OK && (e != api.ErrCode || w != nil) {
					t.Errorf("the power off behind %d: Open = %v, %d", n, w, e)
				}
				v, e := Create(f, 3, 2, 1) // and it may be made anew
				done(t, e)
				isNew(t, f, v, x)
			})
		}
	}
}

func TestACrashOfCreateLeavesNothingOrAnArrayOfNoughts(t *testing.T) { // P8.1, P8.8
	for _, x := range []shape{{3, 2, 1, false}, {4, 1, 2, true}} {
		for n, over := 0, false; !over; n++ {
			s := x.shelf(t)
			s.Stop(n)
			_, e := Create(s, x.members, x.stripes, x.logs)
			over = e == api.OK
			someCrashes(s, func(f *shelf.Shelf) {
				switch v, e := Open(f); e {
				case api.OK:
					isNew(t, f, v, x)
				case api.ErrCode:
					if over || n >= x.disks()+4 { // a flush of each disk, then the first one says it
						t.Errorf("%+v: behind %d writes and flushes nothing is said", x, n)
					}
				default:
					t.Errorf("%+v: behind %d writes and flushes: error %d", x, n, e)
				}
			})
		}
	}
}

func TestCreateSaysDiskByDisk(t *testing.T) { // P8.1
	x := shape{3, 2, 1, true}
	for n := range 4*5 + 1 {
		s := x.shelf(t)
		s.Stop(n)
		Create(s, 3, 2, 1)
		s.Crash(nil)
		for disk := range 4 {
			// Behind one flush of each disk: the sums, a flush, the bytes, a flush.
			said, e := super.Decode(raw(t, s, disk, 1))
			if want := n >= 4+4*(disk+1); want != (e == api.OK) || want && said != x.saidOf(disk) {
				t.Errorf("behind %d writes and flushes the disk %d says %+v, %d", n, disk, said, e)
			}
		}
	}
}

// corners are arrays at the edges of what there may be.
func corners() []shape {
	var all []shape
	for _, members := range []int{3, 16} {
		for _, stripes := range []int{1, 1024} {
			for _, logs := range []int{1, 8} {
				for _, spare := range []bool{false, true} {
					all = append(all, shape{members, stripes, logs, spare})
				}
			}
		}
	}
	return all
}

func TestArraysAtTheEdges(t *testing.T) { // P8.1, P8.2, P8.3, P8.4, P8.7
	for _, x := range corners() {
		s, v := x.create(t)
		written := map[int][]byte{}
		for _, n := range []int{0, 1, x.blocks()/2 + 1, x.blocks() - 2, x.blocks() - 1} {
			written[n%x.blocks()] = text(n)
			done(t, v.Write(n%x.blocks(), text(n)))
		}
		done(t, v.Flush())
		for _, w := range []*Volume{v, again(t, s)} {
			for n, b := range written {
				has(t, w, n, b)
			}
			refuses(t, w, x.blocks(), api.ErrArg)
			refuses(t, w, -1, api.ErrArg)
			whole(t, w, 0, true)
			whole(t, w, x.stripes-1, true)
		}
		done(t, s.Kill(x.members-1))
		w := again(t, s)
		for n, b := range written {
			has(t, w, n, b)
		}
		if x.spare {
			done(t, w.Save(x.members-1, 0, 0))
			for _, stripe := range []int{0, x.stripes - 1} {
				done(t, w.Fill(stripe))
			}
		}
	}
}

func TestSizeIsHowManyBlocks(t *testing.T) { // P8.3
	for _, x := range smalls() {
		s, v := x.create(t)
		want, e := lay.Capacity(x.members, x.stripes)
		done(t, e)
		if v.Size() != want || want != x.blocks() {
			t.Errorf("%+v: Size %d", x, v.Size())
		}
		done(t, s.Kill(0))
		s.Stop(0)
		if v.Size() != want {
			t.Error("what is dead, or off, has its size")
		}
	}
}

func TestStatusTellsWhoIsDead(t *testing.T) { // P8.5
	x := shape{4, 5, 1, true}
	for _, c := range []struct {
		spare, mark int
		kill        []int
		dead        []int
	}{
		{-1, 0, nil, nil},
		{-1, 0, []int{4}, nil}, // the spare stands for nobody
		{-1, 0, []int{2}, []int{2}},
		{-1, 0, []int{3, 0, 1}, []int{0, 1, 3}},
		{-1, 0, []int{0, 1, 2, 3, 4}, []int{0, 1, 2, 3}},
		{2, 0, []int{2}, []int{2}},
		{2, 1, []int{2}, []int{2}},
		{2, 4, []int{2}, []int{2}},
		{2, 5, []int{2}, nil},
		{2, 0, []int{4}, nil},
		{2, 1, []int{4}, []int{2}},
		{2, 4, []int{4}, []int{2}},
		{2, 5, []int{4}, []int{2}},
		{2, 5, []int{2, 4}, []int{2}},
		{2, 3, []int{2, 4}, []int{2}},
		{2, 5, []int{2, 3}, []int{3}},
		{0, 5, []int{4, 3}, []int{0, 3}},
		{0, 3, []int{1}, []int{1}},
		{3, 2, nil, nil},
	} {
		s, v := x.create(t)
		done(t, v.Save(c.spare, c.mark, 3))
		for _, d := range c.kill {
			done(t, s.Kill(d))
		}
		want := api.Status{Members: 4, Stripes: 5, Dead: c.dead, Spare: c.spare, Mark: c.mark, Cursor: 3}
		isStatus(t, v, want)
		if v.Spares() == slices.Contains(c.kill, 4) {
			t.Errorf("%+v: Spares %v", c, v.Spares())
		}
		s.Stop(0)
		isStatus(t, v, want) // nothing is asked of the disks
		got := v.Status()
		for i := range got.Dead {
			got.Dead[i] = 99 // nor is what is told kept
		}
		isStatus(t, v, want)
	}
}

func TestStatusOfOneStripe(t *testing.T) { // P8.5
	for mark := range 2 {
		for kill := range 4 {
			s, v := shape{3, 1, 1, true}.create(t)
			done(t, v.Save(1, mark, 0))
			done(t, s.Kill(kill))
			var dead []int
			switch {
			case kill == 3 && mark == 1:
				dead = []int{1}
			case kill < 3 && (kill != 1 || mark == 0):
				dead = []int{kill}
			}
			isStatus(t, v, api.Status{Members: 3, Stripes: 1, Dead: dead, Spare: 1, Mark: mark})
		}
	}
}

func TestSparesAsksForOneThatLives(t *testing.T) { // P8.5
	for _, x := range smalls() {
		s, v := x.create(t)
		if v.Spares() != x.spare {
			t.Errorf("%+v: %v", x, v.Spares())
		}
		done(t, s.Kill(0))
		s.Stop(0)
		if v.Spares() != x.spare {
			t.Errorf("%+v: %v, though another one is dead", x, v.Spares())
		}
		s.Kill(x.members) // there may be none
		if v.Spares() {
			t.Error("a dead spare is none")
		}
	}
}

func TestNoVolume(t *testing.T) { // what is said of nil
	var v *Volume
	if v.Size() != 0 || v.Spares() || !same(v.Status(), api.Status{}) || v.Status().Dead != nil {
		t.Error("there is nothing of no volume")
	}
	is(t, "Flush", v.Flush(), api.ErrClosed)
	for _, x := range edges() {
		refuses(t, v, x, api.ErrClosed)
		is(t, "Write", v.Write(x, text(1)), api.ErrClosed)
		is(t, "Write of nil", v.Write(x, nil), api.ErrClosed)
		n, e := v.Mend(x)
		is(t, "Mend", e, api.ErrClosed)
		w, e := v.Whole(x)
		is(t, "Whole", e, api.ErrClosed)
		if n != 0 || w {
			t.Errorf("%d, %v beside an error", n, w)
		}
		is(t, "Fill", v.Fill(x), api.ErrClosed)
		is(t, "Save", v.Save(x, x, x), api.ErrClosed)
		is(t, "Save", v.Save(-1, 0, 0), api.ErrClosed)
	}
}

func TestNoCallPanics(t *testing.T) { // P1, R1
	for _, v := range []*Volume{nil, {}, over(shelfOf(t, 3, 9)), over(nil)} {
		for _, x := range edges() {
			v.Read(x)
			v.Write(x, text(1))
			v.Mend(x)
			v.Whole(x)
			v.Fill(x)
			for _, y := range edges() {
				v.Save(x, y, x)
				v.Save(y, x, x)
			}
		}
		v.Size()
		v.Status()
		v.Spares()
		v.Flush()
	}
	_, v := shape{3, 2, 1, true}.create(t)
	for _, x := range edges() {
		v.Read(x)
		v.Write(x, nil)
		v.Mend(x)
		v.Whole(x)
		v.Fill(x)
		for _, y := range edges() {
			for _, z := range edges() {
				if !super.Right(api.Super{Gen: 1, Members: 3, Stripes: 2, Logs: 1, Spare: x, Mark: y, Cursor: z}) {
					is(t, "Save", v.Save(x, y, z), api.ErrArg)
				}
			}
		}
	}
	Open(nil)
	Open(&shelf.Shelf{})
}

func TestVolumesKnowNothingOfEachOther(t *testing.T) { // R5
	x := shape{3, 2, 1, false}
	a, v := x.full(t)
	b, w := x.create(t)
	done(t, w.Write(0, text(5)))
	done(t, a.Kill(0))
	a.Stop(0)
	done(t, w.Flush())
	has(t, w, 0, text(5))
	has(t, w, 1, noughts())
	refuses(t, v, 0, api.ErrOff)
	if b.Dead(0) {
		t.Error("the other's disk is dead")
	}
}

func TestArgumentsStayAndAnswersAreNew(t *testing.T) { // R3, R4
	for dead := -1; dead < 3; dead++ {
		s, v := shape{3, 2, 1, false}.full(t)
		if dead >= 0 {
			done(t, s.Kill(dead))
		}
		room := append(text(3), text(99)...)
		done(t, v.Write(1, room[:128]))
		if !bytes.Equal(room, append(text(3), text(99)...)) {
			t.Error("what was handed in changed")
		}
		clear(room)
		for range 2 {
			b, e := v.Read(1)
			done(t, e)
			if !bytes.Equal(b, text(3)) {
				t.Error("what was handed in was kept, or what was handed out")
			}
			clear(b)
			_ = append(b, 1, 2, 3)
		}
		other, e := v.Read(0)
		done(t, e)
		clear(other)
		has(t, v, 0, text(1000))
	}
}
