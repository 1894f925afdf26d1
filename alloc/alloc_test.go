package alloc

import (
	"bytes"
	"math"
	"slices"
	"testing"

	"ashlar/api"
	"ashlar/cache"
	"ashlar/journal"
	"ashlar/lay"
	"ashlar/raid"
	"ashlar/shelf"
)

// done fails if a call was refused.
func done(t *testing.T, e api.Errno) {
	t.Helper()
	if e != api.OK {
		t.Fatalf("error %d", e)
	}
}

// is fails if a call answers another error than the one that is asked for.
func is(t *testing.T, what string, got, want api.Errno) {
	t.Helper()
	if got != want {
		t.Errorf("%s: %d, not %d", what, got, want)
	}
}

// A shape is an array's numbers, and a cache's. The journal's 28 blocks are the last ones.
type shape struct{ members, stripes, most int }

var (
	small  = shape{3, 20, 3}  // 40 blocks, of which 0 to 11 are the journal's own
	wide   = shape{5, 20, 64} // 80 blocks, of which 0 to 51 are
	narrow = shape{3, 20, 1}
)

func (x shape) blocks() int { return x.stripes * (x.members - 1) }

func (x shape) ring() int { return x.blocks() - api.MinRing }

// ready is an array with an empty journal; all other blocks are noughts.
func (x shape) ready(t *testing.T) (*shelf.Shelf, *journal.Journal) {
	t.Helper()
	need, e := lay.Need(x.stripes, 1)
	done(t, e)
	s, e := shelf.New(x.members, need+(need+15)/16)
	done(t, e)
	v, e := raid.Create(s, x.members, x.stripes, 1)
	done(t, e)
	c, e := cache.New(v, x.most)
	done(t, e)
	done(t, journal.Format(c, x.ring(), api.MinRing))
	return s, x.open(t, s)
}

// open is the journal with what the disks have.
func (x shape) open(t *testing.T, s *shelf.Shelf) *journal.Journal {
	t.Helper()
	v, e := raid.Open(s)
	done(t, e)
	c, e := cache.New(v, x.most)
	done(t, e)
	j, _, e := journal.Open(c, x.ring(), api.MinRing)
	done(t, e)
	return j
}

// again is the journal behind a crash that loses what waits.
func (x shape) again(t *testing.T, s *shelf.Shelf) *journal.Journal {
	t.Helper()
	s.Crash(nil)
	return x.open(t, s)
}

func mapOf(t *testing.T, j *journal.Journal, first, count int) *Map {
	t.Helper()
	m, e := Open(j, first, count)
	if m == nil || e != api.OK {
		t.Fatalf("Open = %v, %d", m != nil, e)
	}
	return m
}

// bit is whether a block's bit is set, told without the package.
func bit(b []byte, i int) bool {
	return b[i/8]>>(i%8)&1 == 1
}

// taken are the things that Has tells to be.
func taken(t *testing.T, m *Map) []int {
	t.Helper()
	var l []int
	for i := range m.Count() {
		has, e := m.Has(i)
		done(t, e)
		if has {
			l = append(l, i)
		}
	}
	return l
}

// has fails if others than these things are taken.
func has(t *testing.T, m *Map, want ...int) {
	t.Helper()
	if l := taken(t, m); !slices.Equal(l, want) {
		t.Errorf("taken are %v, not %v", l, want)
	}
	if n, e := m.Free(); n != m.Count()-len(want) || e != api.OK {
		t.Errorf("Free = %d, %d, not %d", n, e, m.Count()-len(want))
	}
}

func take(t *testing.T, m *Map, want int) {
	t.Helper()
	if i, e := m.Take(); i != want || e != api.OK {
		t.Fatalf("Take = %d, %d, not %d", i, e, want)
	}
}

// edges are numbers at which a call may go wrong.
func edges() []int {
	return []int{
		math.MinInt, math.MinInt + 1, -1 << 32, -1025, -1024, -2, -1, 0, 1, 2, 8, 11, 12, 1023, 1024, 1025,
		2047, 2048, 2049, 4095, 4096, 4097, 1 << 32, math.MaxInt - 1024, math.MaxInt - 1, math.MaxInt,
	}
}

func TestBlocksIsHowManyTheBitsNeed(t *testing.T) { // P12.1
	for _, c := range []struct{ count, want int }{
		{math.MinInt, 0}, {-1025, 0}, {-1, 0}, {0, 0}, {1, 1}, {2, 1}, {1023, 1}, {1024, 1}, {1025, 2}, {2048, 2},
		{2049, 3}, {4095, 4}, {4096, 4}, {4097, 5}, {1 << 32, 1 << 22}, {math.MaxInt - 1, 1 << 53}, {math.MaxInt, 1 << 53},
	} {
		if n := Blocks(c.count); n != c.want {
			t.Errorf("Blocks(%d) = %d, not %d", c.count, n, c.want)
		}
	}
}

func TestOpenTakesWhatMayBe(t *testing.T) { // P12.1, R1
	_, j := small.ready(t)
	for _, first := range edges() {
		for _, count := range edges() {
			m, e := Open(j, first, count)
			// 12 blocks are the journal's own.
			right := count >= 1 && count <= 4096 && first >= 0 && first <= 12-(count+1023)/1024
			want := api.ErrArg
			if right {
				want = api.OK
			}
			if e != want || (m != nil) != right {
				t.Errorf("Open(%d, %d) = %v, %d", first, count, m != nil, e)
			}
			if right && m.Count() != count {
				t.Errorf("Open(%d, %d): Count = %d", first, count, m.Count())
			}
		}
	}
}

func TestOpenRefusesFirstWhatMayNotBe(t *testing.T) { // P12.1, R2
	for _, c := range []struct{ first, count int }{{0, 0}, {0, 4097}, {-1, 1}, {0, 5}, {math.MaxInt, 1}} {
		m, e := Open(nil, c.first, c.count)
		if m != nil || e != api.ErrArg {
			t.Errorf("Open(nil, %d, %d) = %v, %d", c.first, c.count, m != nil, e)
		}
	}
	s, j := small.ready(t)
	done(t, s.Kill(0))
	done(t, s.Kill(1))
	for _, c := range []struct {
		first, count int
		want         api.Errno
	}{
		{0, 0, api.ErrArg}, {0, 4097, api.ErrArg}, {-1, 1, api.ErrArg}, {0, 1, api.ErrIo}, {3, 4096, api.ErrIo},
	} {
		m, e := Open(j, c.first, c.count)
		if m != nil || e != c.want {
			t.Errorf("Open(%d, %d) = %v, %d, not %d", c.first, c.count, m != nil, e, c.want)
		}
	}
	if m, e := Open(&journal.Journal{}, -1, 1); m != nil || e != api.ErrArg {
		t.Errorf("Open from -1 on = %v, %d", m != nil, e)
	}
	if m, e := Open(&journal.Journal{}, 0, 1); m != nil || e != api.ErrClosed {
		t.Errorf("Open of a journal that is none = %v, %d", m != nil, e)
	}
}

func TestOpenReadsEachOfItsBlocksAndNoOther(t *testing.T) { // P12.1
	_, j := small.ready(t)
	for n := range 12 {
		done(t, j.Write(n, bytes.Repeat([]byte{0xff}, 128)))
	}
	done(t, j.Commit())
	done(t, j.Checkpoint())
	for _, c := range []struct {
		first, count int
		want         api.Errno
	}{
		{8, 4096, api.OK}, {9, 4096, api.ErrArg}, {9, 3072, api.OK}, {9, 3073, api.ErrArg}, {11, 1024, api.OK},
		{11, 1025, api.ErrArg}, {12, 1, api.ErrArg}, {39, 1, api.ErrArg}, {40, 1, api.ErrArg},
	} {
		m, e := Open(j, c.first, c.count)
		if e != c.want || (m != nil) != (e == api.OK) {
			t.Errorf("Open(%d, %d) = %v, %d, not %d", c.first, c.count, m != nil, e, c.want)
		}
	}
	if l := j.Running(); len(l) != 0 {
		t.Errorf("Open writes %v", l)
	}
}

func TestOfThreeThings(t *testing.T) { // P12.2: the example
	_, j := small.ready(t)
	m := mapOf(t, j, 0, 3)
	has(t, m)
	take(t, m, 0)
	take(t, m, 1)
	done(t, m.Give(0))
	has(t, m, 1)
	take(t, m, 0)
	take(t, m, 2)
	for range 2 {
		if i, e := m.Take(); i != 0 || e != api.ErrNospc {
			t.Errorf("Take = %d, %d", i, e)
		}
	}
	has(t, m, 0, 1, 2)
}

func TestABitIsAThing(t *testing.T) { // P12.1, P12.2
	_, j := wide.ready(t)
	const first, count = 7, 2500
	for n := range 3 {
		b := make([]byte, 128)
		for i := range b {
			b[i] = byte(i*i + 31*n)
		}
		done(t, j.Write(first+n, b))
	}
	m := mapOf(t, j, first, count)
	free := 0
	for i := range count {
		b, e := j.Read(first + i/1024)
		done(t, e)
		if got, e := m.Has(i); got != bit(b, i%1024) || e != api.OK {
			t.Errorf("Has(%d) = %v, %d", i, got, e)
		}
		if !bit(b, i%1024) {
			free++
		}
	}
	if n, e := m.Free(); n != free || e != api.OK {
		t.Errorf("Free = %d, %d, not %d", n, e, free)
	}
}

func TestTakeAndGiveTurnOneBit(t *testing.T) { // P12.2
	_, j := wide.ready(t)
	const first, count = 3, 2050
	full := bytes.Repeat([]byte{0xff}, 128)
	for n := range 5 {
		done(t, j.Write(first-1+n, full))
	}
	m := mapOf(t, j, first, count)
	for _, i := range []int{0, 1, 7, 8, 1000, 1023, 1024, 1025, 2047, 2048, 2049} {
		done(t, m.Give(i))
		is(t, "Give anew", m.Give(i), api.ErrState)
		for n := range 5 {
			want := bytes.Clone(full)
			if n-1 == i/1024 {
				want[i%1024/8] = 0xff - 1<<(i%8)
			}
			if b, e := j.Read(first - 1 + n); !bytes.Equal(b, want) || e != api.OK {
				t.Errorf("Give(%d): the block %d is %x, %d", i, n-1, b, e)
			}
		}
		if got, e := m.Has(i); got || e != api.OK {
			t.Errorf("Has(%d) = %v, %d", i, got, e)
		}
		if n, e := m.Free(); n != 1 || e != api.OK {
			t.Errorf("Free = %d, %d", n, e)
		}
		take(t, m, i)
		for n := range 5 {
			if b, e := j.Read(first - 1 + n); !bytes.Equal(b, full) || e != api.OK {
				t.Errorf("Take of %d: the block %d is %x, %d", i, n-1, b, e)
			}
		}
	}
}

func TestBitsBeyondTheLastThingStay(t *testing.T) { // P12.1, P12.2
	_, j := small.ready(t)
	for _, count := range []int{1, 7, 8, 9, 1023, 1024, 1025, 2040} {
		last := (count - 1) / 1024
		for _, beyond := range []byte{0, 0xff, 0x5a} {
			b := bytes.Repeat([]byte{beyond}, 128)
			for i := range (count-1)%1024 + 1 {
				b[i/8] &^= 1 << (i % 8)
			}
			for n := range last {
				done(t, j.Write(n, make([]byte, 128)))
			}
			done(t, j.Write(last, b))
			m := mapOf(t, j, 0, count)
			has(t, m)
			for i := range count {
				take(t, m, i)
			}
			if i, e := m.Take(); i != 0 || e != api.ErrNospc {
				t.Errorf("of %d, Take = %d, %d", count, i, e)
			}
			if n, e := m.Free(); n != 0 || e != api.OK {
				t.Errorf("of %d, Free = %d, %d", count, n, e)
			}
			is(t, "Give", m.Give(count-1), api.OK)
			take(t, m, count-1)
			for i := range count {
				done(t, m.Give(i))
			}
			if got, e := j.Read(last); !bytes.Equal(got, b) || e != api.OK {
				t.Errorf("of %d, the last block is %x, %d, not %x", count, got, e, b)
			}
		}
	}
}

func TestThingsThatThereAreNotAreRefused(t *testing.T) { // P12.2, R1
	_, j := wide.ready(t)
	for n := range 6 {
		done(t, j.Write(n, bytes.Repeat([]byte{0xff}, 128)))
	}
	for _, count := range []int{1, 8, 1023, 1024, 1025, 2048, 4096} {
		m := mapOf(t, j, 1, count)
		for _, i := range append(edges(), count-1, count, count+1) {
			want := api.OK
			if i < 0 || i >= count {
				want = api.ErrArg
			}
			if got, e := m.Has(i); e != want || got != (want == api.OK) {
				t.Errorf("of %d, Has(%d) = %v, %d", count, i, got, e)
			}
			is(t, "Give", m.Give(i), want)
			if want == api.OK {
				take(t, m, i)
			}
		}
	}
}

func TestNoMapTellsNothing(t *testing.T) { // P12.2
	for _, m := range []*Map{nil, {}} {
		for _, i := range edges() {
			if got, e := m.Has(i); got || e != api.ErrClosed {
				t.Errorf("Has(%d) = %v, %d", i, got, e)
			}
			is(t, "Give", m.Give(i), api.ErrClosed)
		}
		if i, e := m.Take(); i != 0 || e != api.ErrClosed {
			t.Errorf("Take = %d, %d", i, e)
		}
		if n, e := m.Free(); n != 0 || e != api.ErrClosed {
			t.Errorf("Free = %d, %d", n, e)
		}
		if n := m.Count(); n != 0 {
			t.Errorf("Count = %d", n)
		}
	}
}

func TestAFullTransactionRefuses(t *testing.T) { // P12.2, R2
	_, j := wide.ready(t)
	m := mapOf(t, j, 0, 2000)
	for i := range 1024 {
		take(t, m, i)
	}
	done(t, j.Commit())
	for n := range 24 {
		done(t, j.Write(20+n, make([]byte, 128)))
	}
	if i, e := m.Take(); i != 0 || e != api.ErrFull {
		t.Errorf("Take = %d, %d", i, e)
	}
	is(t, "Give", m.Give(1023), api.ErrFull)
	is(t, "Give of a free one", m.Give(1024), api.ErrState)
	if n, e := m.Free(); n != 976 || e != api.OK {
		t.Errorf("Free = %d, %d", n, e)
	}
	j.Abort()
	take(t, m, 1024)
	done(t, m.Give(1023))
	if l := j.Running(); !slices.Equal(l, []int{0, 1}) {
		t.Errorf("Running = %v", l)
	}
}

func TestWhatCanNotBeReadIsTold(t *testing.T) { // P12.2, P6
	s, j := narrow.ready(t) // the cache has one block only
	m := mapOf(t, j, 0, 2048)
	for i := range 1024 {
		take(t, m, i)
	}
	done(t, j.Commit())
	done(t, j.Checkpoint())
	take(t, m, 1024) // this block is running: the other one is not kept
	done(t, s.Kill(0))
	done(t, s.Kill(2))
	if got, e := m.Has(1024); !got || e != api.OK {
		t.Errorf("Has = %v, %d", got, e)
	}
	done(t, m.Give(1024))
	if got, e := m.Has(3); got || e != api.ErrIo {
		t.Errorf("Has = %v, %d", got, e)
	}
	is(t, "Give", m.Give(3), api.ErrIo)
	if i, e := m.Take(); i != 0 || e != api.ErrIo {
		t.Errorf("Take = %d, %d", i, e)
	}
	if n, e := m.Free(); n != 0 || e != api.ErrIo {
		t.Errorf("Free = %d, %d", n, e)
	}
	s.Stop(0)
	if i, e := m.Take(); i != 0 || e != api.ErrOff {
		t.Errorf("without power, Take = %d, %d", i, e)
	}
}

func TestTheFirstBlockThatHasAFreeThingIsTheLastThatIsRead(t *testing.T) { // P12.2
	s, j := narrow.ready(t)
	m := mapOf(t, j, 0, 4096)
	take(t, m, 0)
	done(t, s.Kill(0))
	done(t, s.Kill(1))
	for i := 1; i < 1024; i++ {
		take(t, m, i)
	}
	if i, e := m.Take(); i != 0 || e != api.ErrIo {
		t.Errorf("Take = %d, %d", i, e)
	}
}

func TestMapsBesideEachOtherAreTheirOwn(t *testing.T) { // P12.2, R5
	_, j := wide.ready(t)
	a, b := mapOf(t, j, 4, 1030), mapOf(t, j, 6, 5)
	for i := range 5 {
		take(t, b, i)
	}
	for i := range 1030 {
		take(t, a, i)
	}
	done(t, b.Give(3))
	if n, e := a.Free(); n != 0 || e != api.OK {
		t.Errorf("Free = %d, %d", n, e)
	}
	has(t, b, 0, 1, 2, 4)
	has(t, mapOf(t, j, 6, 5), 0, 1, 2, 4) // it has nothing that the journal has not
}

func TestAnAbortTakesBack(t *testing.T) { // P12.4
	_, j := small.ready(t)
	m := mapOf(t, j, 2, 20)
	take(t, m, 0)
	take(t, m, 1)
	done(t, j.Commit())
	take(t, m, 2)
	done(t, m.Give(0))
	has(t, m, 1, 2)
	j.Abort()
	has(t, m, 0, 1)
	was := j.Saved()
	take(t, m, 2)
	done(t, j.Undo(was))
	has(t, m, 0, 1)
}

func TestWhatWasCommittedLasts(t *testing.T) { // P12.4
	s, j := wide.ready(t)
	m := mapOf(t, j, 0, 1026)
	for i := range 1026 {
		take(t, m, i)
	}
	done(t, m.Give(1))
	done(t, m.Give(1025))
	done(t, j.Commit())
	take(t, m, 1)
	done(t, m.Give(500))
	done(t, s.Kill(2))
	m = mapOf(t, wide.again(t, s), 0, 1026)
	if n, e := m.Free(); n != 2 || e != api.OK {
		t.Errorf("Free = %d, %d", n, e)
	}
	take(t, m, 1)
	take(t, m, 1025)
}
