package cache

import (
	"bytes"
	"slices"
	"testing"

	"ashlar/api"
	"ashlar/lay"
	"ashlar/raid"
	"ashlar/shelf"
	"ashlar/sums"
)

// text is a block of which each byte is another one.
func text(x int) []byte {
	b := make([]byte, api.Sector)
	for i := range b {
		b[i] = byte(x + i)
	}
	b[0], b[1] = byte(x>>8), byte(x>>16)
	return b
}

// done fails if a call was refused.
func done(t *testing.T, e api.Errno) {
	t.Helper()
	if e != api.OK {
		t.Fatalf("error %d", e)
	}
}

// is fails if a call answers another error than the one that is asked for.
func is(t *testing.T, what string, got, want api.Errno) {
	t.Helper()
	if got != want {
		t.Errorf("%s: %d, not %d", what, got, want)
	}
}

// A shape is an array's numbers.
type shape struct {
	members, stripes, logs int
}

func (x shape) blocks() int { return x.stripes * (x.members - 1) }

// empty is a new array, on disks that just have room.
func (x shape) empty(t *testing.T) (*shelf.Shelf, *raid.Volume) {
	t.Helper()
	need, e := lay.Need(x.stripes, x.logs)
	done(t, e)
	s, e := shelf.New(x.members, need+(need+15)/16)
	done(t, e)
	v, e := raid.Create(s, x.members, x.stripes, x.logs)
	done(t, e)
	return s, v
}

// old is what a full array's block has at first, fresh what a test Puts.
func old(block int) []byte   { return text(1000 + block) }
func fresh(block int) []byte { return text(2000 + block) }

// full is an array of which each block has a text of its own.
func (x shape) full(t *testing.T) (*shelf.Shelf, *raid.Volume) {
	t.Helper()
	s, v := x.empty(t)
	for n := range x.blocks() {
		done(t, v.Write(n, old(n)))
	}
	done(t, v.Flush())
	return s, v
}

func cacheOf(t *testing.T, v *raid.Volume, most int) *Cache {
	t.Helper()
	c, e := New(v, most)
	if e != api.OK || c == nil {
		t.Fatalf("New(%d) = %v, %d", most, c, e)
	}
	return c
}

// A deed is something that is done to a cache, or to what lies below it, and is not refused.
type deed func(t *testing.T, s *shelf.Shelf, c *Cache)

func gets(blocks ...int) deed {
	return func(t *testing.T, _ *shelf.Shelf, c *Cache) {
		t.Helper()
		for _, block := range blocks {
			_, e := c.Get(block)
			done(t, e)
		}
	}
}

func puts(blocks ...int) deed {
	return func(t *testing.T, _ *shelf.Shelf, c *Cache) {
		t.Helper()
		for _, block := range blocks {
			done(t, c.Put(block, fresh(block)))
		}
	}
}

func pins(blocks ...int) deed {
	return func(t *testing.T, _ *shelf.Shelf, c *Cache) {
		t.Helper()
		for _, block := range blocks {
			done(t, c.Pin(block))
		}
	}
}

func unpins(blocks ...int) deed {
	return func(t *testing.T, _ *shelf.Shelf, c *Cache) {
		t.Helper()
		for _, block := range blocks {
			done(t, c.Unpin(block))
		}
	}
}

func flushes(t *testing.T, _ *shelf.Shelf, c *Cache) { done(t, c.Flush()) }

func dies(disks ...int) deed {
	return func(t *testing.T, s *shelf.Shelf, _ *Cache) {
		for _, d := range disks {
			done(t, s.Kill(d))
		}
	}
}

func stops(n int) deed {
	return func(_ *testing.T, s *shelf.Shelf, _ *Cache) { s.Stop(n) }
}

// turns lets a disk's block of a stripe be bad.
func turns(x shape, stripe, disk int) deed {
	return func(t *testing.T, s *shelf.Shelf, _ *Cache) {
		t.Helper()
		base, e := lay.Base(x.logs)
		done(t, e)
		_, at, e := sums.Place(base + stripe)
		done(t, e)
		done(t, s.Corrupt(disk, at, 77, 0x40))
	}
}

// behind is a cache of a full array behind some deeds.
func (x shape) behind(t *testing.T, most int, deeds ...deed) (*shelf.Shelf, *Cache) {
	t.Helper()
	s, v := x.full(t)
	c := cacheOf(t, v, most)
	for _, d := range deeds {
		d(t, s, c)
	}
	return s, c
}

// has fails if a cache keeps other blocks, or others are dirty.
func has(t *testing.T, what string, c *Cache, blocks, dirty []int) {
	t.Helper()
	if got := c.Blocks(); !slices.Equal(got, blocks) {
		t.Errorf("%s: Blocks = %v, not %v", what, got, blocks)
	}
	if got := c.Dirty(); !slices.Equal(got, dirty) {
		t.Errorf("%s: Dirty = %v, not %v", what, got, dirty)
	}
}

// got fails if a Get does not tell these bytes.
func got(t *testing.T, what string, c *Cache, block int, want []byte) {
	t.Helper()
	if b, e := c.Get(block); e != api.OK || !bytes.Equal(b, want) {
		t.Errorf("%s: Get(%d) = %x.., %d, not %x..", what, block, b[:min(4, len(b))], e, want[:4])
	}
}

// wrote fails if other blocks of the volume than these were written.
func wrote(t *testing.T, what string, v *raid.Volume, blocks ...int) {
	t.Helper()
	for n := range v.Size() {
		want := old(n)
		if slices.Contains(blocks, n) {
			want = fresh(n)
		}
		if b, e := v.Read(n); e != api.OK || !bytes.Equal(b, want) {
			t.Errorf("%s: the volume's block %d has %x.., %d, not %x..", what, n, b[:min(4, len(b))], e, want[:4])
		}
	}
}

// waits is how many writes wait on all disks.
func waits(s *shelf.Shelf) int {
	disks, _ := s.Size()
	n := 0
	for d := range disks {
		n += s.Waits(d)
	}
	return n
}

var small = shape{4, 3, 1} // 9 blocks, 3 a stripe: those of the first stripe on the disks 0 to 2

func TestExample(t *testing.T) { // the chapter's example
	_, c := small.behind(t, 2, gets(0, 1, 0, 2))
	has(t, "the example", c, []int{0, 2}, nil)
}

func TestNew(t *testing.T) { // P10.1
	_, v := small.empty(t)
	for _, x := range []struct {
		v    *raid.Volume
		most int
		want api.Errno
	}{
		{v, -1, api.ErrArg}, {v, 0, api.ErrArg}, {v, 1, api.OK}, {v, 2, api.OK},
		{v, 1024, api.OK}, {v, 1025, api.ErrArg}, {v, -1 << 63, api.ErrArg}, {v, 1<<63 - 1, api.ErrArg},
		{nil, 1, api.ErrArg}, {nil, 0, api.ErrArg}, {nil, 1024, api.ErrArg}, {nil, 1025, api.ErrArg},
	} {
		c, e := New(x.v, x.most)
		if e != x.want || (c != nil) != (x.want == api.OK) {
			t.Errorf("New(%v, %d) = %v, %d, not %d", x.v != nil, x.most, c, e, x.want)
		}
		if e == api.OK {
			has(t, "a new cache", c, nil, nil)
			if c.Volume() != v {
				t.Error("it is of another volume")
			}
		}
	}
}

// none fails if a cache answers as if there were one.
func none(t *testing.T, what string, c *Cache) {
	t.Helper()
	for _, block := range []int{-1, 0, 1, 1 << 40} {
		b, e := c.Get(block)
		if b != nil {
			t.Errorf("%s: Get = %v", what, b)
		}
		is(t, what+": Get", e, api.ErrClosed)
		is(t, what+": Put", c.Put(block, text(1)), api.ErrClosed)
		is(t, what+": Put of nil", c.Put(block, nil), api.ErrClosed)
		is(t, what+": Pin", c.Pin(block), api.ErrClosed)
		is(t, what+": Unpin", c.Unpin(block), api.ErrClosed)
	}
	is(t, what+": Flush", c.Flush(), api.ErrClosed)
	has(t, what, c, nil, nil)
	if c.Volume() != nil {
		t.Errorf("%s: Volume = %v", what, c.Volume())
	}
}

func TestNoCache(t *testing.T) { // P10.2, P1
	none(t, "nil", nil)
	none(t, "a Cache of nothing", &Cache{})
}

func TestAVolumeOfNothing(t *testing.T) { // P1: what nobody created has no block
	c := cacheOf(t, &raid.Volume{}, 3)
	for _, block := range []int{-1, 0, 1} {
		_, e := c.Get(block)
		is(t, "Get", e, api.ErrArg)
		is(t, "Put", c.Put(block, text(1)), api.ErrArg)
		is(t, "Pin", c.Pin(block), api.ErrNone)
		is(t, "Unpin", c.Unpin(block), api.ErrNone)
	}
	has(t, "a volume of nothing", c, nil, nil)
}

func TestBlocksThatAreNot(t *testing.T) { // P10.1, P10.2, R1
	s, c := small.behind(t, 3, gets(4), puts(5))
	s.Stop(0) // ErrArg is told ahead of ErrOff
	done(t, s.Kill(0))
	is(t, "the power goes", s.Flush(1), api.ErrOff)
	for _, block := range []int{-1, 9, 10, 1 << 40, -1 << 63, 1<<63 - 1} {
		b, e := c.Get(block)
		if e != api.ErrArg || b != nil {
			t.Errorf("Get(%d) = %v, %d", block, b, e)
		}
		is(t, "Put", c.Put(block, text(1)), api.ErrArg)
		is(t, "Put of nil", c.Put(block, nil), api.ErrArg)
		is(t, "Pin", c.Pin(block), api.ErrNone)
		is(t, "Unpin", c.Unpin(block), api.ErrNone)
	}
	for _, size := range []int{0, 1, 127, 129, 256} {
		for _, block := range []int{0, 4, 5, 8} {
			is(t, "Put of other sizes", c.Put(block, make([]byte, size)), api.ErrArg)
			is(t, "Put of other sizes, with room behind", c.Put(block, make([]byte, size, 512)), api.ErrArg)
		}
	}
	has(t, "behind what is refused", c, []int{4, 5}, []int{5})
	got(t, "behind what is refused", c, 5, fresh(5))
	got(t, "behind what is refused", c, 4, old(4))
}

func TestTheFirstAndTheLastBlock(t *testing.T) { // P10.1
	_, c := small.behind(t, 2, gets(0, 8), puts(8, 0))
	has(t, "the first and the last", c, []int{8, 0}, []int{0, 8})
	done(t, c.Put(8, fresh(8)[:128:128]))
	done(t, c.Flush())
	wrote(t, "the first and the last", c.Volume(), 0, 8)
}

// An ask is a call behind some deeds, and what it leaves.
type ask struct {
	what   string
	most   int
	deeds  []deed
	get    int // the block that is asked for, or
	put    int // the one that is Put
	want   api.Errno
	blocks []int
	dirty  []int
}

const no = -1

// rooms are of blocks that are kept, or not, with room or without.
func rooms() []ask {
	ds := func(deeds ...deed) []deed { return deeds }
	return []ask{
		{"a Get of none that is kept", 2, nil, 3, no, api.OK, []int{3}, nil},
		{"a Put of none that is kept", 2, nil, no, 3, api.OK, []int{3}, []int{3}},
		{"a Get of one that is kept", 2, ds(gets(3, 4)), 3, no, api.OK, []int{4, 3}, nil},
		{"a Get of one that is dirty", 2, ds(puts(3), gets(4)), 3, no, api.OK, []int{4, 3}, []int{3}},
		{"a Get of the last that was used", 2, ds(gets(3, 4)), 4, no, api.OK, []int{3, 4}, nil},
		{"a Put of one that is kept", 2, ds(gets(3, 4)), no, 3, api.OK, []int{4, 3}, []int{3}},
		{"a Put of one that is dirty", 2, ds(puts(3), gets(4)), no, 3, api.OK, []int{4, 3}, []int{3}},
		{"a Put of one that is kept, all pinned", 2, ds(gets(3, 4), pins(3, 4)), no, 3, api.OK, []int{4, 3}, []int{3}},
		{"a Get of one that is kept, all pinned", 2, ds(gets(3, 4), pins(3, 4)), 3, no, api.OK, []int{4, 3}, nil},
		{"a clean one leaves for a Get", 2, ds(gets(3, 4)), 5, no, api.OK, []int{4, 5}, nil},
		{"a clean one leaves for a Put", 2, ds(gets(3, 4)), no, 5, api.OK, []int{4, 5}, []int{5}},
		{"a dirty one leaves for a Get", 2, ds(puts(3), gets(4)), 5, no, api.OK, []int{4, 5}, nil},
		{"a dirty one leaves for a Put", 2, ds(puts(3), gets(4)), no, 5, api.OK, []int{4, 5}, []int{5}},
		{"the only one leaves for a Get", 1, ds(puts(3)), 5, no, api.OK, []int{5}, nil},
		{"the only one leaves for a Put", 1, ds(puts(3)), no, 5, api.OK, []int{5}, []int{5}},
		{"the only one is kept", 1, ds(puts(3)), 3, no, api.OK, []int{3}, []int{3}},
		{"a Pin is no use", 3, ds(gets(3, 4, 5), pins(3), unpins(3)), 6, no, api.OK, []int{4, 5, 6}, nil},
		{"the oldest is pinned", 3, ds(gets(3, 4, 5), pins(3)), 6, no, api.OK, []int{3, 5, 6}, nil},
		{"all but the last are pinned", 3, ds(gets(3, 4), puts(5), pins(3, 4)), 6, no, api.OK, []int{3, 4, 6}, nil},
		{"all but one in the midst are pinned", 3, ds(puts(3, 4, 5), pins(3, 5)), no, 6, api.OK, []int{3, 5, 6}, []int{3, 5, 6}},
		{"all are pinned, a Get", 2, ds(gets(3), puts(4), pins(3, 4)), 5, no, api.ErrFull, []int{3, 4}, []int{4}},
		{"all are pinned, a Put", 2, ds(gets(3), puts(4), pins(3, 4)), no, 5, api.ErrFull, []int{3, 4}, []int{4}},
		{"the only one is pinned", 1, ds(gets(3), pins(3)), no, 5, api.ErrFull, []int{3}, nil},
		{"one Unpin makes room", 2, ds(gets(3), puts(4), pins(3, 4), unpins(4)), 5, no, api.OK, []int{3, 5}, nil},
		{"two Pins, one Unpin", 1, ds(gets(3), pins(3, 3), unpins(3)), 5, no, api.ErrFull, []int{3}, nil},
		{"two Pins, two Unpins", 1, ds(gets(3), pins(3, 3), unpins(3, 3)), 5, no, api.OK, []int{5}, nil},
		{"a Put takes no Pin", 1, ds(gets(3), pins(3), puts(3)), 5, no, api.ErrFull, []int{3}, []int{3}},
		{"one that came back has no Pins", 1, ds(gets(3), pins(3), unpins(3), gets(4, 3)), 5, no, api.OK, []int{5}, nil},
		{"one that came back is clean", 1, ds(puts(3), gets(4)), 3, no, api.OK, []int{3}, nil},
		{"a flushed one leaves", 1, ds(puts(3), flushes), 5, no, api.OK, []int{5}, nil},
		{"a Flush is no use", 2, ds(puts(3, 4), flushes), 5, no, api.OK, []int{4, 5}, nil},
	}
}

// refusals are of what the volume refuses: with the disks 0 and 3 dead the block 0 can be neither read nor written, with
// 1 and 3 the block 1, and with 0 and 1 these two can't be read.
func refusals() []ask {
	ds := func(deeds ...deed) []deed { return deeds }
	off := func(t *testing.T, s *shelf.Shelf, _ *Cache) {
		s.Stop(0)
		is(t, "the power goes", s.Flush(1), api.ErrOff)
	}
	return []ask{
		{"a Get that can't be read", 2, ds(gets(3), dies(0, 3)), 0, no, api.ErrIo, []int{3}, nil},
		{"one that is kept is read on", 2, ds(gets(0, 3), dies(0, 3)), 0, no, api.OK, []int{3, 0}, nil},
		{"a Put is not written yet", 2, ds(gets(3), dies(0, 3)), no, 0, api.OK, []int{3, 0}, []int{0}},
		{"a Get that can't be read makes no room", 1, ds(puts(3), dies(0, 3)), 0, no, api.ErrIo, []int{3}, []int{3}},
		{"what can't be read goes ahead of what is pinned", 1, ds(gets(3), pins(3), dies(0, 3)), 0, no, api.ErrIo, []int{3}, nil},
		{"one that can't be written stays, a Get", 2, ds(puts(0, 1), dies(0, 3)), 2, no, api.ErrIo, []int{0, 1}, []int{0, 1}},
		{"one that can't be written stays, a Put", 2, ds(puts(0, 1), dies(0, 3)), no, 2, api.ErrIo, []int{0, 1}, []int{0, 1}},
		{"one that can't be written, but is clean, leaves", 2, ds(gets(0), puts(1), dies(0, 3)), no, 2, api.OK, []int{1, 2}, []int{1, 2}},
		{"one that can't be written is pinned", 2, ds(puts(0, 1), pins(0), dies(0, 3)), no, 2, api.OK, []int{0, 2}, []int{0, 2}},
		{"one that can't be written is used", 2, ds(puts(0, 1), dies(0, 3), gets(0)), no, 2, api.OK, []int{0, 2}, []int{0, 2}},
		{"one dead member", 2, ds(puts(0, 1), dies(0)), 2, no, api.OK, []int{1, 2}, []int{1}},
		{"a dead member's own block", 2, ds(puts(1, 2), dies(0)), 0, no, api.OK, []int{2, 0}, []int{2}},
		{"without power, a Get of one that is kept", 2, ds(puts(0, 1), off), 0, no, api.OK, []int{1, 0}, []int{0, 1}},
		{"without power, a Put of one that is kept", 2, ds(gets(0, 1), off), no, 0, api.OK, []int{1, 0}, []int{0}},
		{"without power, a Get", 2, ds(puts(0), off), 2, no, api.ErrOff, []int{0}, []int{0}},
		{"without power, a Put with room", 2, ds(puts(0), off), no, 2, api.OK, []int{0, 2}, []int{0, 2}},
		{"without power, a clean one leaves for a Put", 1, ds(gets(0), off), no, 2, api.OK, []int{2}, []int{2}},
		{"without power, a dirty one stays", 1, ds(puts(0), off), no, 2, api.ErrOff, []int{0}, []int{0}},
		{"without power, all pinned, a Get", 1, ds(gets(0), pins(0), off), 2, no, api.ErrOff, []int{0}, nil},
		{"without power, all pinned, a Put", 1, ds(gets(0), pins(0), off), no, 2, api.ErrFull, []int{0}, nil},
	}
}

func TestRoom(t *testing.T) { // P10.1, P10.2, R2
	for _, x := range append(rooms(), refusals()...) {
		t.Run(x.what, func(t *testing.T) {
			_, c := small.behind(t, x.most, x.deeds...)
			if x.put != no {
				is(t, "Put", c.Put(x.put, text(9)), x.want)
			} else {
				b, e := c.Get(x.get)
				is(t, "Get", e, x.want)
				if (b == nil) != (e != api.OK) {
					t.Errorf("Get = %v beside %d", b, e)
				}
			}
			has(t, "behind it", c, x.blocks, x.dirty)
			if x.put != no && x.want == api.OK {
				got(t, "behind a Put", c, x.put, text(9))
			}
		})
	}
}

func TestOneThatLeavesIsWritten(t *testing.T) { // P10.1, P10.3
	s, c := small.behind(t, 2, puts(3), gets(4))
	wrote(t, "ahead", c.Volume())
	gets(5)(t, s, c)
	wrote(t, "a dirty one left", c.Volume(), 3)
	puts(6)(t, s, c)
	wrote(t, "a clean one left", c.Volume(), 3)
	gets(7, 8)(t, s, c)
	wrote(t, "another dirty one left", c.Volume(), 3, 6)
	got(t, "it comes back", c, 3, fresh(3))
	got(t, "it comes back", c, 6, fresh(6))
}

func TestACleanOneIsNotWritten(t *testing.T) { // P10.1, P10.2
	s, c := small.behind(t, 1, gets(3))
	count := s.Count()
	gets(4)(t, s, c)
	reads := s.Count() - count
	puts(4)(t, s, c)
	flushes(t, s, c)
	count = s.Count()
	gets(5)(t, s, c)
	if s.Count()-count != reads || waits(s) != 0 {
		t.Error("a clean block was written")
	}
	got(t, "one that is kept", c, 5, old(5))
	if s.Count()-count != reads {
		t.Error("one that is kept was read")
	}
	flushes(t, s, c)
	wrote(t, "behind all", c.Volume(), 4)
}

func TestAPutReadsNothing(t *testing.T) { // P10.1
	s, c := small.behind(t, 2)
	count := s.Count()
	puts(3, 4, 3)(t, s, c)
	if s.Count() != count {
		t.Error("a Put with room calls the volume")
	}
}

func TestGetsTellWhatWasPutLast(t *testing.T) { // P10.1, P10.3
	_, c := small.behind(t, 2)
	for n := range 4 {
		done(t, c.Put(3, text(n)))
		got(t, "behind a Put", c, 3, text(n))
	}
	gets(4, 5)(t, nil, c)
	got(t, "behind it left", c, 3, text(3))
	has(t, "it came back", c, []int{5, 3}, nil)
}

func TestPinsAreCounted(t *testing.T) { // P10.2
	_, c := small.behind(t, 3, gets(3, 4))
	for _, block := range []int{-1, 0, 5, 8, 9} {
		is(t, "Pin of one that is not kept", c.Pin(block), api.ErrNone)
		is(t, "Unpin of one that is not kept", c.Unpin(block), api.ErrNone)
	}
	for n := range 5 {
		is(t, "Unpin of one that is not pinned", c.Unpin(3), api.ErrNone)
		for range n {
			done(t, c.Pin(3))
		}
		is(t, "Unpin of another one", c.Unpin(4), api.ErrNone)
		for range n {
			done(t, c.Unpin(3))
		}
	}
	is(t, "Unpin of one that is not pinned any more", c.Unpin(3), api.ErrNone)
	has(t, "no Pin is a use", c, []int{3, 4}, nil)
}

func TestOneThatLeftIsNotPinned(t *testing.T) { // P10.2
	_, c := small.behind(t, 1, puts(3), gets(4))
	is(t, "Pin of one that left", c.Pin(3), api.ErrNone)
	is(t, "Unpin of one that left", c.Unpin(3), api.ErrNone)
}

func TestWhatIsHandedInAndOut(t *testing.T) { // R3, R4
	_, c := small.behind(t, 3)
	b := append(fresh(3), 1, 2, 3)
	done(t, c.Put(3, b[:128]))
	if !bytes.Equal(b, append(fresh(3), 1, 2, 3)) {
		t.Error("what was handed in is changed")
	}
	clear(b)
	got(t, "what was handed in is changed by the caller", c, 3, fresh(3))
	for _, block := range []int{3, 4} {
		first, _ := c.Get(block)
		clear(first)
		_ = append(first, 7)
		second, _ := c.Get(block)
		clear(second)
	}
	got(t, "what was handed out is changed by the caller", c, 3, fresh(3))
	got(t, "what was handed out is changed by the caller", c, 4, old(4))
	for _, list := range [][]int{c.Blocks(), c.Dirty()} {
		for i := range list {
			list[i] = 77
		}
		_ = append(list[:0], 5, 5)
	}
	has(t, "lists are changed by the caller", c, []int{3, 4}, []int{3})
	done(t, c.Flush())
	wrote(t, "behind all", c.Volume(), 3)
}

func TestTheVolumeBesideTheCache(t *testing.T) { // P10.1: what is kept is told, else what the volume has
	_, c := small.behind(t, 2, gets(3))
	v := c.Volume()
	done(t, v.Write(3, text(5)))
	done(t, v.Write(4, text(6)))
	got(t, "one that is kept", c, 3, old(3))
	got(t, "one that is not", c, 4, text(6))
	gets(5)(t, nil, c)
	got(t, "one that came back", c, 3, text(5))
	done(t, c.Put(3, text(7)))
	if b, e := v.Read(3); e != api.OK || !bytes.Equal(b, text(5)) {
		t.Error("a Put is written too soon")
	}
	done(t, v.Write(3, text(8)))
	done(t, c.Flush())
	if b, e := v.Read(3); e != api.OK || !bytes.Equal(b, text(7)) {
		t.Error("a Flush does not write it")
	}
}

func TestTwoCachesOfOneVolume(t *testing.T) { // R3, R5
	_, v := small.full(t)
	a, b := cacheOf(t, v, 2), cacheOf(t, v, 2)
	gets(3)(t, nil, a)
	puts(3)(t, nil, b)
	pins(3)(t, nil, b)
	has(t, "the first", a, []int{3}, nil)
	has(t, "the other", b, []int{3}, []int{3})
	is(t, "Unpin", a.Unpin(3), api.ErrNone)
	got(t, "the first", a, 3, old(3))
	unpins(3)(t, nil, b)
	done(t, b.Flush())
	got(t, "the first", a, 3, old(3))
	gets(4, 5)(t, nil, a)
	got(t, "the first, behind", a, 3, fresh(3))
}

func TestTheGreatestCache(t *testing.T) { // P10.1, the document's limits
	x := shape{3, 520, 1} // 1040 blocks
	_, v := x.empty(t)
	c := cacheOf(t, v, api.MaxCache)
	var want []int
	for block := range api.MaxCache {
		done(t, c.Put(block, fresh(block)))
		want = append(want, block)
	}
	has(t, "all it may have", c, want, want)
	for block := range api.MaxCache {
		done(t, c.Pin(block))
	}
	is(t, "one more", c.Put(1030, fresh(1030)), api.ErrFull)
	for block := range api.MaxCache {
		done(t, c.Unpin(block))
	}
	done(t, c.Put(1030, fresh(1030)))
	has(t, "one more", c, append(want[1:], 1030), append(want[1:], 1030))
	done(t, c.Flush())
	has(t, "a Flush", c, append(want[1:], 1030), nil)
	for _, block := range append(want, 1030) {
		if b, e := v.Read(block); e != api.OK || !bytes.Equal(b, fresh(block)) {
			t.Fatalf("the volume's block %d: %d", block, e)
		}
	}
}
