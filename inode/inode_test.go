package inode

import (
	"bytes"
	"slices"
	"testing"

	"ashlar/alloc"
	"ashlar/api"
	"ashlar/cache"
	"ashlar/journal"
	"ashlar/lay"
	"ashlar/raid"
	"ashlar/shelf"
)

// done fails if a call was refused.
func done(t *testing.T, e api.Errno) {
	t.Helper()
	if e != api.OK {
		t.Fatalf("error %d", e)
	}
}

// is fails if a call answers another error than the one that is asked for.
func is(t *testing.T, what string, got, want api.Errno) {
	t.Helper()
	if got != want {
		t.Errorf("%s: %d, not %d", what, got, want)
	}
}

// A shape is an array's numbers, a cache's, a map's and a table's. The bits stand from the block 1 on, the table behind
// them, the files' blocks behind that; the journal's 28 blocks are the last ones.
type shape struct{ members, stripes, most, things, files int }

var (
	small  = shape{4, 40, 9, 60, 4}        // 120 blocks
	tight  = shape{4, 40, 9, 12, 3}        // of which few are the files'
	narrow = shape{4, 40, 1, 80, 5}        // with a cache of one
	big    = shape{16, 96, 64, 1300, 5}    // 1440 blocks
	huge   = shape{16, 285, 1024, 4096, 2} // 4275 blocks
)

func (x shape) blocks() int { return x.stripes * (x.members - 1) }

func (x shape) ring() int { return x.blocks() - api.MinRing }

func (x shape) table() int { return 1 + (x.things+1023)/1024 }

func (x shape) base() int { return x.table() + (x.files+1)/2 }

// A site is a table over disks.
type site struct {
	shape
	s *shelf.Shelf
	j *journal.Journal
	m *alloc.Map
	f *Table
}

var fulls = map[shape]*shelf.Shelf{}

// ready is an array with an empty journal: all other blocks are noughts.
func (x shape) ready(t *testing.T) *site {
	t.Helper()
	if fulls[x] == nil {
		need, e := lay.Need(x.stripes, 1)
		done(t, e)
		s, e := shelf.New(x.members, need+(need+15)/16)
		done(t, e)
		v, e := raid.Create(s, x.members, x.stripes, 1)
		done(t, e)
		c, e := cache.New(v, x.most)
		done(t, e)
		done(t, journal.Format(c, x.ring(), api.MinRing))
		fulls[x] = s
	}
	w := &site{shape: x, s: fulls[x].Fork()}
	w.open(t)
	return w
}

// open begins with what the disks have.
func (w *site) open(t *testing.T) {
	t.Helper()
	v, e := raid.Open(w.s)
	done(t, e)
	c, e := cache.New(v, w.most)
	done(t, e)
	w.j, _, e = journal.Open(c, w.ring(), api.MinRing)
	done(t, e)
	w.m, e = alloc.Open(w.j, 1, w.things)
	done(t, e)
	w.f, e = Open(w.j, w.m, w.table(), w.files, w.base())
	done(t, e)
}

// crash loses what was not committed.
func (w *site) crash(t *testing.T) {
	t.Helper()
	w.s.Crash(nil)
	w.open(t)
}

// file lets a place have a file without bytes.
func (w *site) file(t *testing.T, ino int) {
	t.Helper()
	done(t, w.f.Set(ino, api.Inode{Kind: api.KindFile, Links: 1}))
}

func (w *site) free(t *testing.T, want int) {
	t.Helper()
	if n, e := w.m.Free(); n != want || e != api.OK {
		t.Errorf("%d things are free (%d), not %d", n, e, want)
	}
}

// text is bytes of which none is a nought.
func text(x, n int) []byte {
	b := make([]byte, n)
	for i := range b {
		b[i] = byte((x*7+i)%255) + 1
	}
	return b
}

func (w *site) reads(t *testing.T, ino, off, n int, want []byte) {
	t.Helper()
	if b, e := w.f.Read(ino, off, n); !bytes.Equal(b, want) || e != api.OK {
		t.Errorf("Read(%d, %d, %d) = %x, %d, not %x", ino, off, n, b, e, want)
	}
}

// takes fails if a file takes other blocks than these things.
func (w *site) takes(t *testing.T, ino int, want ...int) {
	t.Helper()
	l, e := w.f.Blocks(ino)
	done(t, e)
	for i := range l {
		l[i] -= w.base()
	}
	if !slices.Equal(l, want) {
		t.Errorf("the file %d takes the things %v, not %v", ino, l, want)
	}
}

func TestOpenTakesWhatMayBe(t *testing.T) { // P13.2, R1
	w := small.ready(t)
	for _, first := range append(edges(), 90, 91, 92, 119, 120) {
		for _, count := range append(edges(), 4, 5) {
			for _, base := range []int{-1, 0, 1, 2, 61439, 61440, 61441, 1 << 62} {
				f, e := Open(w.j, w.m, first, count, base)
				// 92 blocks are the journal's own.
				right := first >= 0 && count >= 1 && count <= 256 && first <= 92-(count+1)/2 && base >= 1 && base <= 61440
				want := api.ErrArg
				if right {
					want = api.OK
				}
				if e != want || (f != nil) != right {
					t.Fatalf("Open(%d, %d, %d) = %v, %d", first, count, base, f != nil, e)
				}
			}
		}
	}
}

func TestOpenRefusesFirstWhatMayNotBe(t *testing.T) { // P13.2, R2
	w := narrow.ready(t)
	if f, e := Open(nil, w.m, 0, 1, 1); f != nil || e != api.ErrArg {
		t.Errorf("without a journal, Open = %v, %d", f != nil, e)
	}
	if f, e := Open(w.j, nil, 0, 1, 1); f != nil || e != api.ErrArg {
		t.Errorf("without a map, Open = %v, %d", f != nil, e)
	}
	if f, e := Open(&journal.Journal{}, w.m, 0, 1, 1); f != nil || e != api.ErrClosed {
		t.Errorf("of a journal that is none, Open = %v, %d", f != nil, e)
	}
	if f, e := Open(&journal.Journal{}, w.m, -1, 1, 1); f != nil || e != api.ErrArg {
		t.Errorf("from -1 on, Open = %v, %d", f != nil, e)
	}
	done(t, w.s.Kill(0))
	done(t, w.s.Kill(1))
	for _, c := range []struct {
		first, count, base int
		want               api.Errno
	}{
		{-1, 1, 1, api.ErrArg}, {20, 0, 1, api.ErrArg}, {20, 257, 1, api.ErrArg}, {20, 1, 0, api.ErrArg},
		{20, 1, 61441, api.ErrArg}, {20, 1, 1, api.ErrIo}, {20, 256, 1, api.ErrIo},
	} {
		if f, e := Open(w.j, w.m, c.first, c.count, c.base); f != nil || e != c.want {
			t.Errorf("Open(%d, %d, %d) = %v, %d, not %d", c.first, c.count, c.base, f != nil, e, c.want)
		}
	}
}

func TestOpenReadsEachOfItsBlocksAndNoOther(t *testing.T) { // P13.2
	w := small.ready(t)
	for n := range 92 {
		done(t, w.j.Write(n, text(n, 128))) // they say nothing: Open does not look at that
		done(t, w.j.Commit())
	}
	for _, c := range []struct {
		first, count int
		want         api.Errno
	}{
		{91, 1, api.OK}, {91, 2, api.OK}, {91, 3, api.ErrArg}, {90, 3, api.OK}, {90, 4, api.OK}, {90, 5, api.ErrArg}, {92, 1, api.ErrArg},
	} {
		if f, e := Open(w.j, w.m, c.first, c.count, 1); e != c.want || (f != nil) != (e == api.OK) {
			t.Errorf("Open(%d, %d) = %v, %d, not %d", c.first, c.count, f != nil, e, c.want)
		}
	}
	if l := w.j.Running(); len(l) != 0 {
		t.Errorf("Open writes %v", l)
	}
}

func TestWhatIsSetIsGot(t *testing.T) { // P13.2
	w := big.ready(t) // 5 files: the last block has one
	at := w.table()
	for n := range 3 {
		done(t, w.j.Write(at+n, make([]byte, 128)))
	}
	done(t, w.j.Write(at-1, text(1, 128)))
	done(t, w.j.Write(at+3, text(2, 128)))
	want := make([]byte, 384)
	for i, n := range files() {
		ino := i * 3 % 5
		done(t, w.f.Set(ino, n))
		copy(want[64*ino:], coded(n))
		var got []byte
		for k := range 3 {
			b, e := w.j.Read(at + k)
			done(t, e)
			got = append(got, b...)
		}
		if !bytes.Equal(got, want) {
			t.Fatalf("Set(%d): the table is %x, not %x", ino, got, want)
		}
		for ino := range 5 {
			n, _ := said(want[64*ino:][:64])
			if got, e := w.f.Get(ino); got != n || e != api.OK {
				t.Errorf("Get(%d) = %v, %d, not %v", ino, got, e, n)
			}
		}
	}
	for k, x := range map[int]int{at - 1: 1, at + 3: 2} {
		if b, e := w.j.Read(k); !bytes.Equal(b, text(x, 128)) || e != api.OK {
			t.Errorf("the block %d is %x, %d", k, b, e)
		}
	}
}

func TestSetRefusesWhatMayNotBe(t *testing.T) { // P13.2
	w := small.ready(t)
	right := api.Inode{Kind: api.KindDir, Links: 1, Size: 5, Single: 7}
	done(t, w.f.Set(1, right))
	for _, n := range []api.Inode{
		{Links: 1}, {Size: 1}, {Single: 3}, {Kind: 3}, {Kind: -1}, {Kind: 1, Links: 201}, {Kind: 1, Size: 136193},
		{Kind: 1, Size: -1}, {Kind: 2, Direct: [8]int{7: 65536}}, {Kind: 2, Double: 65536},
	} {
		is(t, "Set", w.f.Set(1, n), api.ErrArg)
	}
	if n, e := w.f.Get(1); n != right || e != api.OK {
		t.Errorf("Get = %v, %d", n, e)
	}
	done(t, w.f.Set(1, api.Inode{}))
	if n, e := w.f.Get(1); n != (api.Inode{}) || e != api.OK {
		t.Errorf("Get = %v, %d", n, e)
	}
}

func TestFreeIsTheFirstPlaceWithoutAFile(t *testing.T) { // P13.2
	for _, x := range []shape{small, tight} { // 4 places, and 3
		w := x.ready(t)
		for ino := range x.files {
			if got, e := w.f.Free(); got != ino || e != api.OK {
				t.Errorf("Free = %d, %d, not %d", got, e, ino)
			}
			done(t, w.f.Set(ino, api.Inode{Kind: 1 + ino%2}))
		}
		if got, e := w.f.Free(); got != 0 || e != api.ErrNospc {
			t.Errorf("Free = %d, %d", got, e)
		}
		for ino := x.files - 1; ino >= 0; ino-- {
			done(t, w.f.Set(ino, api.Inode{}))
			if got, e := w.f.Free(); got != ino || e != api.OK {
				t.Errorf("Free = %d, %d, not %d", got, e, ino)
			}
		}
	}
}

func TestFreeReadsNoOtherBlock(t *testing.T) { // P13.2
	w := small.ready(t)
	f, e := Open(w.j, w.m, 91, 2, 4) // the ring lies behind it
	done(t, e)
	for ino := range 2 {
		done(t, f.Set(ino, api.Inode{Kind: 1}))
	}
	if got, e := f.Free(); got != 0 || e != api.ErrNospc {
		t.Errorf("Free = %d, %d", got, e)
	}
}

func TestFreeTellsWhatSaysNothingAheadOfIt(t *testing.T) { // P13.2
	w := tight.ready(t)
	bad := text(3, 128)
	done(t, w.j.Write(w.table()+1, bad)) // the files 2 and, beyond the last one, 3
	if got, e := w.f.Free(); got != 0 || e != api.OK {
		t.Errorf("Free = %d, %d", got, e)
	}
	w.file(t, 0)
	w.file(t, 1)
	if got, e := w.f.Free(); got != 0 || e != api.ErrCode {
		t.Errorf("Free = %d, %d", got, e)
	}
	done(t, w.f.Set(2, api.Inode{Kind: 1}))
	if got, e := w.f.Free(); got != 0 || e != api.ErrNospc {
		t.Errorf("Free = %d, %d", got, e)
	}
	if b, e := w.j.Read(w.table() + 1); !bytes.Equal(b[64:], bad[64:]) || e != api.OK {
		t.Errorf("behind the last file stands %x, %d", b[64:], e)
	}
}

// A call takes a file's number, where its bytes begin, and how many there are.
type call struct {
	name           string
	bytes, off, to bool // has it a number of bytes, has it a place, may it be that the file gets longer?
	do             func(f *Table, ino, off, n int) (any bool, e api.Errno)
}

// calls are all that take a file's number: they tell whether they answer anything.
func calls() []call {
	return []call{
		{"Get", false, false, false, func(f *Table, ino, _, _ int) (bool, api.Errno) {
			n, e := f.Get(ino)
			return n != api.Inode{}, e
		}},
		{"Blocks", false, false, false, func(f *Table, ino, _, _ int) (bool, api.Errno) {
			l, e := f.Blocks(ino)
			return l != nil, e
		}},
		{"Read", true, true, false, func(f *Table, ino, off, n int) (bool, api.Errno) {
			b, e := f.Read(ino, off, n)
			return b != nil, e
		}},
		{"Need", true, true, true, func(f *Table, ino, off, n int) (bool, api.Errno) {
			k, e := f.Need(ino, off, n)
			return k != 0, e
		}},
		{"Write", true, true, true, func(f *Table, ino, off, n int) (bool, api.Errno) {
			return false, f.Write(ino, off, make([]byte, min(max(n, 0), 5000)))
		}},
		{"Cut", false, true, true, func(f *Table, ino, off, _ int) (bool, api.Errno) {
			return false, f.Cut(ino, off)
		}},
	}
}

// refused is what such a call tells: of the files, 1 is none, 2 says nothing.
func (c call) refused(ino, off, n int) api.Errno {
	if !c.bytes {
		n = 0
	}
	if c.name == "Write" {
		n = max(n, 0)
	}
	switch {
	case ino < 0 || ino >= 4:
		return api.ErrArg
	case ino == 2:
		return api.ErrCode
	case !c.off:
		return api.OK
	case off < 0 || n < 0 || n > 1024:
		return api.ErrArg
	case ino == 1:
		return api.ErrNone
	case c.to && off > 136192-n:
		return api.ErrFbig
	}
	return api.OK
}

func TestTheErrorThatIsNamedFirst(t *testing.T) { // P13.2, P13.3, R1, R2
	w := small.ready(t)
	w.file(t, 0)
	w.file(t, 3)
	b, e := w.j.Read(w.table() + 1)
	done(t, e)
	b[1] = 1 // the file 2 says nothing
	done(t, w.j.Write(w.table()+1, b))
	done(t, w.j.Commit())
	for _, c := range calls() {
		for _, ino := range []int{-1 << 62, -1, 0, 1, 2, 3, 4, 5, 255, 1 << 62} {
			for _, off := range append(edges(), 135168, 135169, 136191) {
				for _, n := range edges() {
					any, e := c.do(w.f, ino, off, n)
					if want := c.refused(ino, off, n); e != want || e != api.OK && any {
						t.Fatalf("%s(%d, %d, %d) = %v, %d, not %d", c.name, ino, off, n, any, e, want)
					}
					if l := w.j.Running(); e != api.OK && len(l) != 0 {
						t.Fatalf("%s(%d, %d, %d) = %d writes %v", c.name, ino, off, n, e, l)
					}
					w.j.Abort()
				}
			}
		}
	}
}

func TestNoTableTellsNothing(t *testing.T) { // P13.3
	for _, f := range []*Table{nil, {}} {
		for _, c := range calls() {
			for _, ino := range []int{-1, 0, 1} {
				if any, e := c.do(f, ino, -1, -1); any || e != api.ErrClosed {
					t.Errorf("%s(%d) = %v, %d", c.name, ino, any, e)
				}
			}
		}
		is(t, "Set", f.Set(0, api.Inode{Kind: 9}), api.ErrClosed)
		if ino, e := f.Free(); ino != 0 || e != api.ErrClosed {
			t.Errorf("Free = %d, %d", ino, e)
		}
	}
}
