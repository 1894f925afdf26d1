package maint

import (
	"bytes"
	"math"
	"slices"
	"testing"

	"ashlar/api"
	"ashlar/raid"
	"ashlar/shelf"
	"ashlar/sums"
	"ashlar/super"
)

// text is a block of which each byte is another one.
func text(x int) []byte {
	b := make([]byte, api.Sector)
	for i := range b {
		b[i] = byte(x + i)
	}
	b[0], b[1] = byte(x>>8), byte(x>>16)
	return b
}

// done fails if a call was refused.
func done(t *testing.T, e api.Errno) {
	t.Helper()
	if e != api.OK {
		t.Fatalf("error %d", e)
	}
}

// is fails if a call answers another error than the one that is asked for.
func is(t *testing.T, what string, got, want api.Errno) {
	t.Helper()
	if got != want {
		t.Errorf("%s: %d, not %d", what, got, want)
	}
}

// isFloat fails if a float is another one: to the bit, or NaN both.
func isFloat(t *testing.T, what string, got, want float64) {
	t.Helper()
	if math.Float64bits(got) != math.Float64bits(want) && !(math.IsNaN(got) && math.IsNaN(want)) {
		t.Errorf("%s: %v, not %v", what, got, want)
	}
}

// A shape is an array's numbers.
type shape struct {
	members, stripes, logs int
	spare                  bool
}

func (x shape) disks() int {
	if x.spare {
		return x.members + 1
	}
	return x.members
}

func (x shape) base() int   { return 2 + 2*x.logs }
func (x shape) blocks() int { return x.stripes * (x.members - 1) }

// empty is a keeper of a new array, on disks that just have room.
func (x shape) empty(t *testing.T) (*shelf.Shelf, *Keeper) {
	t.Helper()
	need := x.base() + x.stripes
	s, e := shelf.New(x.disks(), need+(need+15)/16)
	done(t, e)
	v, e := raid.Create(s, x.members, x.stripes, x.logs)
	done(t, e)
	return s, keeperOf(t, v)
}

func keeperOf(t *testing.T, v *raid.Volume) *Keeper {
	t.Helper()
	k, e := New(v)
	if e != api.OK || k == nil {
		t.Fatalf("New = %v, %d", k, e)
	}
	return k
}

// full is a keeper of an array of which each block has a text of its own: the block n that of 1000 + n.
func (x shape) full(t *testing.T) (*shelf.Shelf, *Keeper) {
	t.Helper()
	s, k := x.empty(t)
	for n := range x.blocks() {
		done(t, k.Write(n, text(1000+n)))
	}
	done(t, k.Flush())
	return s, k
}

// again opens an array.
func again(t *testing.T, s *shelf.Shelf) *Keeper {
	t.Helper()
	v, e := raid.Open(s)
	if e != api.OK {
		t.Fatalf("Open: %d", e)
	}
	return keeperOf(t, v)
}

// forkOf is another shelf that is the same, behind a crash.
func forkOf(s *shelf.Shelf, keep [][]int) *shelf.Shelf {
	f := s.Fork()
	f.Crash(keep)
	return f
}

// diskOf is where a member's block of a stripe lies.
func diskOf(k *Keeper, stripe, member int) int {
	if now := k.Status(); member == now.Spare && stripe < now.Mark {
		return now.Members
	}
	return member
}

// turn turns a byte of a disk's block, which is bad then.
func turn(t *testing.T, s *shelf.Shelf, disk, block int) {
	t.Helper()
	_, at, e := sums.Place(block)
	done(t, e)
	done(t, s.Corrupt(disk, at, 77, 0x40))
}

// good tells whether a disk's block is.
func good(t *testing.T, s *shelf.Shelf, disk, block int) bool {
	t.Helper()
	d, e := sums.Open(s, disk)
	done(t, e)
	_, e = d.Read(block)
	return e == api.OK
}

// put lays down a disk's block, surely.
func put(t *testing.T, s *shelf.Shelf, disk, block int, b []byte) {
	t.Helper()
	d, e := sums.Open(s, disk)
	done(t, e)
	done(t, d.Write(block, b))
	done(t, d.Flush())
}

// hasAll fails if a full array's blocks have other bytes than at first, but for some.
func hasAll(t *testing.T, what string, k *Keeper, but map[int][]byte) {
	t.Helper()
	for n := range k.Size() {
		want, other := but[n]
		if !other {
			want = text(1000 + n)
		}
		if b, e := k.Read(n); e != api.OK || !bytes.Equal(b, want) {
			t.Fatalf("%s: Read(%d) = %x.., %d, not %x..", what, n, b[:min(4, len(b))], e, want[:4])
		}
	}
}

// allWhole fails if a stripe does not go with its parity, or lacks a block.
func allWhole(t *testing.T, what string, k *Keeper) {
	t.Helper()
	for stripe := range k.Status().Stripes {
		if w, e := k.Whole(stripe); !w || e != api.OK {
			t.Fatalf("%s: Whole(%d) = %v, %d", what, stripe, w, e)
		}
	}
}

// waits is how many writes wait on all disks.
func waits(s *shelf.Shelf) int {
	disks, _ := s.Size()
	n := 0
	for d := range disks {
		n += s.Waits(d)
	}
	return n
}

// sayings are what the disks say that are not dead: the newest of each, if the power went now.
func sayings(t *testing.T, s *shelf.Shelf) []api.Super {
	t.Helper()
	f := forkOf(s, nil)
	disks, _ := f.Size()
	var all []api.Super
	for disk := range disks {
		d, e := sums.Open(f, disk)
		done(t, e)
		var own []api.Super
		for block := range 2 {
			if b, e := d.Read(block); e == api.OK {
				if said, e := super.Decode(b); e == api.OK {
					own = append(own, said)
				}
			}
		}
		if newest, some := super.Newest(own); some {
			all = append(all, own[newest])
		}
	}
	return all
}

// A stand is where a keeper is.
type stand struct {
	spare, mark, cursor int
}

var first = stand{-1, 0, 0}

func standOf(k *Keeper) stand {
	now := k.Status()
	return stand{now.Spare, now.Mark, now.Cursor}
}

// stands fails if a keeper is elsewhere, or tells of its spare otherwise.
func stands(t *testing.T, what string, k *Keeper, want stand) {
	t.Helper()
	if got := standOf(k); got != want {
		t.Errorf("%s: it stands at %+v, not %+v", what, got, want)
	}
	left, share := 0, math.NaN()
	if want.spare != -1 {
		left, share = k.Status().Stripes-want.mark, float64(want.mark)/float64(k.Status().Stripes)
	}
	if k.Left() != left {
		t.Errorf("%s: Left = %d, not %d", what, k.Left(), left)
	}
	isFloat(t, what+": Share", k.Share(), share)
}

// saved fails if not each disk that is not dead says where a keeper is, with that generation; or if an Open finds it elsewhere.
func saved(t *testing.T, what string, s *shelf.Shelf, x shape, gen int, want stand) {
	t.Helper()
	for _, said := range sayings(t, s) {
		if said != (api.Super{
			Gen: gen, Members: x.members, Disk: said.Disk, Stripes: x.stripes, Logs: x.logs,
			Spare: want.spare, Mark: want.mark, Cursor: want.cursor,
		}) {
			t.Errorf("%s: a disk says %+v, not the generation %d of %+v", what, said, gen, want)
		}
	}
	if len(sayings(t, s)) > 0 {
		k := again(t, forkOf(s, nil))
		stands(t, what+", opened again", k, want)
		counted(t, what+", opened again", k, 0, math.NaN())
	}
}

// counted fails if a keeper tells otherwise how many blocks it mended, or how often.
func counted(t *testing.T, what string, k *Keeper, mended int, often float64) {
	t.Helper()
	if k.Mended() != mended {
		t.Errorf("%s: Mended = %d, not %d", what, k.Mended(), mended)
	}
	isFloat(t, what+": Often", k.Often(), often)
}

// ticked fails if a tick answers otherwise.
func ticked(t *testing.T, what string, k *Keeper, want int, wantError api.Errno) {
	t.Helper()
	if did, e := k.Tick(); did != want || e != wantError {
		t.Errorf("%s: Tick = %d, %d, not %d, %d", what, did, e, want, wantError)
	}
}

// A deed is something that happens to an array and its keeper.
type deed func(t *testing.T, s *shelf.Shelf, k *Keeper)

func dies(disks ...int) deed {
	return func(t *testing.T, s *shelf.Shelf, _ *Keeper) {
		for _, d := range disks {
			done(t, s.Kill(d))
		}
	}
}

func stops(n int) deed {
	return func(_ *testing.T, s *shelf.Shelf, _ *Keeper) { s.Stop(n) }
}

func begins(t *testing.T, _ *shelf.Shelf, k *Keeper) { done(t, k.Begin()) }

func ticks(n int) deed {
	return func(t *testing.T, _ *shelf.Shelf, k *Keeper) {
		for range n {
			_, e := k.Tick()
			done(t, e)
		}
	}
}

func writes(n int) deed {
	return func(t *testing.T, _ *shelf.Shelf, k *Keeper) { done(t, k.Write(n, text(1))) }
}

// turns makes a member's block of a stripe bad.
func turns(stripe, member int) deed {
	return func(t *testing.T, s *shelf.Shelf, k *Keeper) {
		turn(t, s, diskOf(k, stripe, member), sayingOf(t, s).Logs*2+2+stripe)
	}
}

// strays lets a member's block of a stripe be good, but not go with the others.
func strays(stripe, member int) deed {
	return func(t *testing.T, s *shelf.Shelf, k *Keeper) {
		put(t, s, diskOf(k, stripe, member), sayingOf(t, s).Logs*2+2+stripe, text(5555))
	}
}

func sayingOf(t *testing.T, s *shelf.Shelf) api.Super {
	t.Helper()
	all := sayings(t, s)
	if len(all) == 0 {
		t.Fatal("no disk says anything")
	}
	return all[0]
}

func saves(spare, mark, cursor int) deed {
	return func(t *testing.T, _ *shelf.Shelf, k *Keeper) { done(t, k.Save(spare, mark, cursor)) }
}

// lasts lets the generation be the last one, behind which nothing is saved.
func lasts(t *testing.T, s *shelf.Shelf, k *Keeper) {
	said := sayingOf(t, s)
	said.Gen = api.MaxGen
	b, e := super.Encode(said)
	done(t, e)
	put(t, s, said.Disk, super.Slot(said.Gen), b)
	k.Volume, e = raid.Open(s)
	done(t, e)
}

// behind is a full array's keeper, behind some deeds.
func (x shape) behind(t *testing.T, deeds ...deed) (*shelf.Shelf, *Keeper) {
	t.Helper()
	s, k := x.full(t)
	for _, d := range deeds {
		d(t, s, k)
	}
	return s, k
}

func TestExample(t *testing.T) { // the chapter's example
	s, k := shape{3, 2, 1, true}.empty(t)
	done(t, s.Kill(1))
	done(t, k.Begin())
	ticked(t, "the first", k, Filled, api.OK)
	isFloat(t, "Share", k.Share(), 0.5)
	ticked(t, "the second", k, Filled, api.OK)
	if k.Left() != 0 {
		t.Errorf("Left = %d", k.Left())
	}
	ticked(t, "the third", k, Scrubbed, api.OK)
}

func TestWhatATickDidIsNumbered(t *testing.T) { // the chapter's words
	if Idle != 0 || Filled != 1 || Scrubbed != 2 {
		t.Error(Idle, Filled, Scrubbed)
	}
}

func TestNew(t *testing.T) { // P9.1
	if k, e := New(nil); k != nil || e != api.ErrArg {
		t.Errorf("New(nil) = %v, %d", k, e)
	}
	x := shape{4, 3, 1, true}
	s, k := x.full(t)
	count, left := s.Count(), waits(s)
	other := keeperOf(t, k.Volume)
	if other.Volume != k.Volume || s.Count() != count || waits(s) != left {
		t.Error("New does something")
	}
	stands(t, "at first", other, first)
	counted(t, "at first", other, 0, math.NaN())
}

// none asks all calls of a keeper that there is not.
func none(t *testing.T, what string, k *Keeper) {
	t.Helper()
	is(t, what+": Begin", k.Begin(), api.ErrClosed)
	ticked(t, what, k, Idle, api.ErrClosed)
	for _, x := range []float64{0, 1, -1, math.Inf(1), math.NaN()} {
		for _, most := range []int{-1, 0, 1, 1024} {
			if n, e := k.Run(x, most); n != 0 || e != api.ErrClosed {
				t.Errorf("%s: Run(%v, %d) = %d, %d", what, x, most, n, e)
			}
		}
	}
	if k.Left() != 0 {
		t.Errorf("%s: Left = %d", what, k.Left())
	}
	isFloat(t, what+": Share", k.Share(), math.NaN())
	counted(t, what, k, 0, math.NaN())
}

func TestNoKeeper(t *testing.T) { // P9.1, P1
	none(t, "a nil keeper", nil)
	none(t, "a keeper of nothing", &Keeper{})
	k := &Keeper{}
	if b, e := k.Read(0); b != nil || e != api.ErrClosed {
		t.Errorf("Read = %v, %d", b, e)
	}
	is(t, "Write", k.Write(0, text(1)), api.ErrClosed)
	is(t, "Save", k.Save(-1, 0, 0), api.ErrClosed)
}

func TestAVolumeOfNothing(t *testing.T) { // P1: what nobody created has no stripe
	k := keeperOf(t, &raid.Volume{})
	is(t, "Begin", k.Begin(), api.ErrNone)
	ticked(t, "a tick", k, Idle, api.ErrArg)
	if n, e := k.Run(2, 2); n != 0 || e != api.ErrArg {
		t.Errorf("Run = %d, %d", n, e)
	}
	if k.Left() != 0 {
		t.Errorf("Left = %d", k.Left())
	}
	isFloat(t, "Share", k.Share(), math.NaN())
	counted(t, "a tick", k, 0, math.NaN())
}

// A call is one of a volume, which a keeper has, too.
type call func(v calls) (any, api.Errno)

type calls interface {
	Size() int
	Read(block int) ([]byte, api.Errno)
	Write(block int, b []byte) api.Errno
	Flush() api.Errno
	Status() api.Status
	Spares() bool
	Mend(stripe int) (int, api.Errno)
	Whole(stripe int) (bool, api.Errno)
	Fill(stripe int) api.Errno
	Save(spare, mark, cursor int) api.Errno
}

func TestItsCallsAreTheVolumes(t *testing.T) { // P9.1
	x := shape{3, 4, 1, true}
	_, k := x.behind(t, dies(1))
	_, other := x.behind(t, dies(1))
	for i, c := range []call{
		func(v calls) (any, api.Errno) { return v.Size(), api.OK },
		func(v calls) (any, api.Errno) { b, e := v.Read(2); return string(b), e },
		func(v calls) (any, api.Errno) { b, e := v.Read(8); return string(b), e },
		func(v calls) (any, api.Errno) { return nil, v.Write(2, text(7)) },
		func(v calls) (any, api.Errno) { return nil, v.Write(2, nil) },
		func(v calls) (any, api.Errno) { b, e := v.Read(2); return string(b), e },
		func(v calls) (any, api.Errno) { return nil, v.Flush() },
		func(v calls) (any, api.Errno) { n, e := v.Mend(1); return n, e },
		func(v calls) (any, api.Errno) { w, e := v.Whole(1); return w, e },
		func(v calls) (any, api.Errno) { return nil, v.Fill(0) },
		func(v calls) (any, api.Errno) { return nil, v.Save(1, 0, 2) },
		func(v calls) (any, api.Errno) { return nil, v.Fill(0) },
		func(v calls) (any, api.Errno) { return nil, v.Save(1, 1, 9) },
		func(v calls) (any, api.Errno) { return v.Spares(), api.OK },
		func(v calls) (any, api.Errno) { s := v.Status(); return [3]int{s.Spare, s.Mark, s.Cursor}, api.OK },
		func(v calls) (any, api.Errno) { return len(v.Status().Dead), api.OK },
	} {
		got, e := c(k)
		want, wantError := c(other.Volume)
		if got != want || e != wantError {
			t.Errorf("the call %d: %v, %d, not %v, %d", i, got, e, want, wantError)
		}
	}
	stands(t, "behind a Save", k, stand{1, 0, 2}) // what is saved through the volume counts
	done(t, k.Volume.Save(1, 3, 1))
	stands(t, "behind a Save", k, stand{1, 3, 1})
}

func TestTwoKeepersOfOneVolume(t *testing.T) { // R3, R5: where it stands is the volume's, what it counts its own
	_, k := shape{3, 3, 1, true}.behind(t, turns(0, 1), turns(1, 2))
	other := keeperOf(t, k.Volume)
	ticked(t, "one", k, Scrubbed, api.OK)
	ticked(t, "the other one", other, Scrubbed, api.OK)
	stands(t, "one", k, stand{-1, 0, 2})
	stands(t, "the other one", other, stand{-1, 0, 2})
	counted(t, "one", k, 1, 1)
	counted(t, "the other one", other, 1, 1)
}

// A beginning is a Begin behind some deeds.
type beginning struct {
	what  string
	spare bool
	deeds []deed
	want  api.Errno
	saves bool
	stand stand
}

// beginnings are of arrays of 4 members and 3 stripes: their spare is the disk 4.
func beginnings() []beginning {
	filling, filled := []deed{dies(1), begins, ticks(1)}, []deed{dies(1), begins, ticks(3)}
	more := func(ahead []deed, deeds ...deed) []deed { return append(slices.Clip(ahead), deeds...) }
	return []beginning{
		{"nobody is dead", true, nil, api.ErrNone, false, first},
		{"nobody is dead, no spare", false, nil, api.ErrNone, false, first},
		{"the spare alone is dead", true, []deed{dies(4)}, api.ErrNone, false, first},
		{"nobody is dead, no power", true, []deed{stops(0)}, api.ErrNone, false, first},
		{"nobody is dead, something is bad", true, []deed{turns(0, 1)}, api.ErrNone, false, first},
		{"one is dead", true, []deed{dies(2)}, api.OK, true, stand{2, 0, 0}},
		{"the first one is dead", true, []deed{dies(0)}, api.OK, true, stand{0, 0, 0}},
		{"the last one is dead", true, []deed{dies(3)}, api.OK, true, stand{3, 0, 0}},
		{"two are dead", true, []deed{dies(3, 1)}, api.OK, true, stand{1, 0, 0}},
		{"all members are dead", true, []deed{dies(3, 2, 1, 0)}, api.OK, true, stand{0, 0, 0}},
		{"one is dead, behind scrubs", true, []deed{ticks(2), dies(1)}, api.OK, true, stand{1, 0, 2}},
		{"one is dead, something waits", true, []deed{dies(1), writes(0), writes(4)}, api.OK, true, stand{1, 0, 0}},
		{"no spare", false, []deed{dies(1)}, api.ErrFull, false, first},
		{"the spare is dead, too", true, []deed{dies(1, 4)}, api.ErrFull, false, first},
		{"all disks are dead", true, []deed{dies(0, 1, 2, 3, 4)}, api.ErrFull, false, first},
		{"no spare, no power", false, []deed{dies(1), stops(0)}, api.ErrFull, false, first},
		{"no power", true, []deed{dies(1), stops(0)}, api.ErrOff, false, first},
		{"the last generation", true, []deed{dies(1), lasts}, api.ErrArg, false, first},
		{"it began", true, []deed{dies(1), begins}, api.OK, false, stand{1, 0, 0}},
		{"it is being filled", true, filling, api.OK, false, stand{1, 1, 0}},
		{"it is being filled, the spare died", true, more(filling, dies(4)), api.OK, false, stand{1, 1, 0}},
		{"it is being filled, another one died", true, more(filling, dies(0)), api.OK, false, stand{1, 1, 0}},
		{"it is being filled, no power", true, more(filling, stops(0)), api.OK, false, stand{1, 1, 0}},
		{"it is being filled, the last generation", true, more(filling, lasts), api.OK, false, stand{1, 1, 0}},
		{"it is being filled, nobody is dead", true, []deed{saves(2, 1, 1)}, api.OK, false, stand{2, 1, 1}},
		{"it is filled", true, filled, api.ErrNone, false, stand{1, 3, 0}},
		{"it is filled, no power", true, more(filled, stops(0)), api.ErrNone, false, stand{1, 3, 0}},
		{"it is filled, another one died", true, more(filled, dies(0)), api.ErrFull, false, stand{1, 3, 0}},
		{"it is filled, and died", true, more(filled, dies(4)), api.ErrFull, false, stand{1, 3, 0}},
		{"it is filled, another one died, no power", true, more(filled, dies(2), stops(0)), api.ErrFull, false, stand{1, 3, 0}},
	}
}

func TestBegin(t *testing.T) { // P9.2, R2
	for _, c := range beginnings() {
		t.Run(c.what, func(t *testing.T) {
			x := shape{4, 3, 1, c.spare}
			s, k := x.behind(t, c.deeds...)
			gen := 0
			for _, said := range sayings(t, s) {
				gen = max(gen, said.Gen)
			}
			count, left, mended, often := s.Count(), waits(s), k.Mended(), k.Often()
			is(t, "Begin", k.Begin(), c.want)
			switch {
			case c.saves:
				gen++
				if waits(s) != 0 {
					t.Error("something waits behind a Begin")
				}
			case s.Count() != count || waits(s) != left:
				t.Error("Begin does something")
			}
			stands(t, "behind a Begin", k, c.stand)
			saved(t, "behind a Begin", s, x, gen, c.stand)
			counted(t, "behind a Begin", k, mended, often)
		})
	}
}

func TestBeginAgain(t *testing.T) { // P9.2: it goes on where it was
	x := shape{3, 4, 1, true}
	s, k := x.behind(t, dies(2), begins)
	for n := range 4 {
		for range 2 {
			is(t, "Begin", k.Begin(), api.OK)
		}
		stands(t, "behind a Begin", k, stand{2, n, 0})
		ticked(t, "a tick", k, Filled, api.OK)
	}
	is(t, "Begin", k.Begin(), api.ErrNone)
	saved(t, "behind all", s, x, 6, stand{2, 4, 0})
}

func TestBeginBehindARefusal(t *testing.T) { // P9.2: a member dies behind a Begin that found none
	x := shape{3, 4, 1, true}
	s, k := x.full(t)
	is(t, "Begin", k.Begin(), api.ErrNone)
	done(t, s.Kill(0))
	is(t, "Begin", k.Begin(), api.OK)
	saved(t, "behind a Begin", s, x, 2, stand{0, 0, 0})
}
