package cache

import (
	"bytes"
	"slices"
	"testing"

	"ashlar/api"
	"ashlar/raid"
	"ashlar/shelf"
)

// surely fails if other blocks than these are written behind a crash that keeps nothing that waits.
func surely(t *testing.T, what string, s *shelf.Shelf, blocks ...int) {
	t.Helper()
	f := s.Fork()
	f.Crash(nil)
	v, e := raid.Open(f)
	done(t, e)
	wrote(t, what, v, blocks...)
}

func TestFlush(t *testing.T) { // P10.2, P10.3, P10.4
	for _, x := range []struct {
		what   string
		deeds  []deed
		wrote  []int
		dirty  []int
		blocks []int
	}{
		{"nothing", nil, nil, nil, nil},
		{"clean ones", []deed{gets(3, 4)}, nil, nil, []int{3, 4}},
		{"dirty ones", []deed{puts(5, 3), gets(4)}, []int{3, 5}, nil, []int{5, 3, 4}},
		{"a pinned one", []deed{puts(3, 4), pins(3)}, []int{4}, []int{3}, []int{3, 4}},
		{"a pinned one of two Pins", []deed{puts(3), pins(3, 3), unpins(3)}, nil, []int{3}, []int{3}},
		{"all pinned", []deed{puts(3, 4), pins(3, 4)}, nil, []int{3, 4}, []int{3, 4}},
		{"one that was pinned", []deed{puts(3, 4), pins(3), unpins(3)}, []int{3, 4}, nil, []int{3, 4}},
		{"a pinned one that is clean", []deed{gets(3), puts(4), pins(3)}, []int{4}, nil, []int{3, 4}},
		{"one that was Put behind a Flush", []deed{puts(3), flushes, puts(3)}, []int{3}, nil, []int{3}},
		{"a stripe's blocks", []deed{puts(2, 1, 0)}, []int{0, 1, 2}, nil, []int{2, 1, 0}},
		{"one that left", []deed{puts(8, 7, 6, 5, 4)}, []int{4, 5, 6, 7, 8}, nil, []int{7, 6, 5, 4}},
		{"a dead member", []deed{puts(0, 1), dies(1)}, []int{0, 1}, nil, []int{0, 1}},
	} {
		t.Run(x.what, func(t *testing.T) {
			s, c := small.behind(t, 4, x.deeds...)
			done(t, c.Flush())
			has(t, "behind a Flush", c, x.blocks, x.dirty)
			wrote(t, "behind a Flush", c.Volume(), x.wrote...)
			surely(t, "behind a crash", s, x.wrote...)
			for _, block := range x.blocks {
				want := old(block)
				if slices.Contains(x.wrote, block) || slices.Contains(x.dirty, block) {
					want = fresh(block)
				}
				got(t, "behind a Flush", c, block, want)
			}
		})
	}
}

func TestAPinnedOneIsFlushedLater(t *testing.T) { // P10.2, P10.4
	s, c := small.behind(t, 3, puts(3, 4), pins(3), flushes)
	surely(t, "pinned", s, 4)
	puts(3)(t, s, c)
	unpins(3)(t, s, c)
	surely(t, "not flushed yet", s, 4)
	flushes(t, s, c)
	surely(t, "not pinned any more", s, 3, 4)
	has(t, "behind all", c, []int{4, 3}, nil)
}

func TestAFlushIsTheVolumesToo(t *testing.T) { // P10.2: also where nothing is dirty
	for _, deeds := range [][]deed{nil, {gets(3)}, {puts(3), pins(3)}} {
		s, c := small.behind(t, 2, deeds...)
		done(t, c.Volume().Write(8, fresh(8)))
		if waits(s) == 0 {
			t.Fatal("nothing waits")
		}
		done(t, c.Flush())
		surely(t, "behind a Flush", s, 8)
	}
}

func TestBlocksAreWrittenRising(t *testing.T) { // P10.2: the volume does the same as if it were written so
	order := []int{7, 2, 5, 0, 3}
	s, c := small.behind(t, 5, puts(order...))
	done(t, c.Flush())
	other, v := small.full(t)
	slices.Sort(order)
	for _, block := range order {
		done(t, v.Write(block, fresh(block)))
	}
	done(t, v.Flush())
	if s.Count() != other.Count() {
		t.Errorf("%d reads, writes and flushes, not %d", s.Count(), other.Count())
	}
	for n := 0; ; n++ { // where the power goes is where it would go
		s, c := small.behind(t, 5, puts(7, 2, 5, 0, 3), stops(n))
		e := c.Flush()
		other, v := small.full(t)
		other.Stop(n)
		want, left := api.OK, order
		for want == api.OK && len(left) > 0 {
			if want = v.Write(left[0], fresh(left[0])); want == api.OK {
				left = left[1:]
			}
		}
		if want == api.OK {
			want = v.Flush()
		}
		is(t, "a Flush", e, want)
		if got := c.Dirty(); !slices.Equal(got, left) || s.Count() != other.Count() {
			t.Errorf("Stop(%d): dirty are %v, not %v; %d calls, not %d", n, got, left, s.Count(), other.Count())
		}
		sameBehindACrash(t, s, other)
		if e == api.OK {
			break
		}
	}
}

// sameBehindACrash fails if two arrays have not the same blocks.
func sameBehindACrash(t *testing.T, s, other *shelf.Shelf) {
	t.Helper()
	s.Crash(nil)
	other.Crash(nil)
	v, e := raid.Open(s)
	done(t, e)
	w, e := raid.Open(other)
	done(t, e)
	for block := range v.Size() {
		a, e := v.Read(block)
		b, f := w.Read(block)
		if e != f || !bytes.Equal(a, b) {
			t.Fatalf("the block %d: %x.., %d, not %x.., %d", block, a[:4], e, b[:4], f)
		}
	}
}

func TestAFlushThatIsRefused(t *testing.T) { // P10.2: those that were written are dirty no more
	s, c := small.behind(t, 5, puts(8, 2, 1, 0), dies(1, 3))
	is(t, "the block 1 can't be written", c.Flush(), api.ErrIo)
	has(t, "refused", c, []int{8, 2, 1, 0}, []int{1, 2, 8})
	is(t, "and once more", c.Flush(), api.ErrIo)
	has(t, "refused again", c, []int{8, 2, 1, 0}, []int{1, 2, 8})
	for block := range 3 {
		got(t, "it is still kept", c, block, fresh(block))
	}
	pins(1)(t, s, c)
	done(t, c.Flush())
	has(t, "without the one that is refused", c, []int{8, 0, 1, 2}, []int{1})
}

func TestTheVolumesFlushIsRefused(t *testing.T) { // P10.2: all were written, so none is dirty
	s, c := small.behind(t, 3, puts(0, 3), pins(0), flushes, unpins(0))
	done(t, c.Volume().Write(6, fresh(6)))
	s.Stop(0)
	is(t, "a Flush", c.Flush(), api.ErrOff)
	has(t, "refused", c, []int{0, 3}, []int{0})
	s.Crash(nil)
	done(t, c.Flush())
	has(t, "the power is on", c, []int{0, 3}, nil)
	saw := false
	for n := 0; !saw; n++ {
		s, c := small.behind(t, 3, puts(0), stops(n))
		e := c.Flush()
		if e == api.OK {
			t.Fatal("no Flush was refused behind its writes")
		}
		saw = len(c.Dirty()) == 0
		has(t, "refused", c, []int{0}, c.Dirty())
		s.Crash(nil)
		got(t, "it is still kept", c, 0, fresh(0))
	}
}

func TestAFlushWithoutPower(t *testing.T) { // P10.2
	for _, deeds := range [][]deed{nil, {gets(0)}, {puts(0, 1)}, {puts(0, 1), pins(0, 1)}} {
		s, c := small.behind(t, 3, deeds...)
		blocks, dirty := c.Blocks(), c.Dirty()
		s.Stop(0)
		is(t, "the power goes", s.Flush(0), api.ErrOff)
		is(t, "Flush", c.Flush(), api.ErrOff)
		has(t, "without power", c, blocks, dirty)
		if c.Volume() == nil {
			t.Error("without power there is no volume")
		}
		if len(blocks) > 0 {
			done(t, c.Pin(blocks[0]))
			done(t, c.Unpin(blocks[0]))
		}
	}
}

func TestABadBlockIsReadAsItWas(t *testing.T) { // P10.1: the volume's Read tells it
	_, c := small.behind(t, 2, turns(small, 0, 0), turns(small, 1, 1), gets(0, 3))
	got(t, "it was turned", c, 0, old(0))
	_, c = small.behind(t, 1, puts(1), turns(small, 0, 0), turns(small, 0, 3))
	b, e := c.Get(0)
	if e != api.ErrIo || b != nil {
		t.Errorf("two of a stripe were turned: Get = %v, %d", b, e)
	}
	has(t, "two of a stripe were turned", c, []int{1}, []int{1})
}
