package inode

import (
	"bytes"
	"encoding/binary"
	"slices"
	"testing"

	"ashlar/api"
)

func TestOneByteFarBehind(t *testing.T) { // P13.3: the example
	w := small.ready(t)
	w.file(t, 2)
	if n, e := w.f.Need(2, 5120, 1); n != 3 || e != api.OK {
		t.Errorf("Need = %d, %d", n, e)
	}
	done(t, w.f.Write(2, 5120, []byte{7}))
	if n, e := w.f.Get(2); n.Size != 5121 || e != api.OK {
		t.Errorf("Get = %v, %d", n, e)
	}
	w.reads(t, 2, 0, 4, make([]byte, 4))
	w.reads(t, 2, 5119, 1024, []byte{0, 7})
	w.free(t, 57)
}

func TestNeedIsWhatIsWrittenAndWhatNamesIt(t *testing.T) { // P13.3
	for _, c := range []struct{ off, n, want int }{
		{0, 0, 0}, {0, 1, 1}, {0, 128, 1}, {0, 129, 2}, {127, 1, 1}, {127, 2, 2}, {127, 0, 0}, {1, 1024, 10}, {0, 1024, 8},
		{896, 128, 1}, {896, 129, 3}, {1023, 1, 1}, {1024, 0, 0}, {1024, 1, 2}, {1023, 2, 3}, {1024, 1024, 9},
		{4992, 128, 2}, {5119, 1, 2}, {5119, 2, 5}, {5120, 1, 3}, {5120, 1024, 10}, {5121, 1024, 11}, {4608, 1024, 11},
		{9215, 1, 3}, {9215, 2, 5}, {9216, 1, 3}, {8704, 1024, 11}, {8705, 1024, 12},
		{136191, 1, 3}, {136192, 0, 0}, {135168, 1024, 10}, {135167, 1024, 11},
	} {
		w := small.ready(t)
		w.file(t, 0)
		if n, e := w.f.Need(0, c.off, c.n); n != c.want || e != api.OK {
			t.Errorf("Need(%d, %d) = %d, %d, not %d", c.off, c.n, n, e, c.want)
		}
		if l := w.j.Running(); len(l) != 1 {
			t.Errorf("Need writes %v", l)
		}
		done(t, w.f.Write(0, c.off, text(1, c.n)))
		w.free(t, 60-c.want)
		w.reads(t, 0, c.off, c.n, text(1, c.n))
		if n, e := w.f.Need(0, c.off, c.n); n != 0 || e != api.OK {
			t.Errorf("Need(%d, %d) of what is there = %d, %d", c.off, c.n, n, e)
		}
		if n, _ := w.f.Get(0); c.n > 0 && n.Size != c.off+c.n || c.n == 0 && n.Size != 0 {
			t.Errorf("behind Write(%d, %d) the file is %v", c.off, c.n, n)
		}
	}
}

func TestWhatNamesABlockIsTakenAheadOfIt(t *testing.T) { // P13.3
	w := small.ready(t)
	w.file(t, 0)
	w.file(t, 1)
	for i := range 10 { // the things 1, 3, 4 and 7 are free, and from 10 on
		if k, e := w.m.Take(); k != i || e != api.OK {
			t.Fatal(k, e)
		}
	}
	for _, i := range []int{1, 3, 4, 7} {
		done(t, w.m.Give(i))
	}
	done(t, w.f.Write(0, 39*128+5, text(3, 300))) // the blocks 39, 40 and 41
	w.takes(t, 0, 1, 3, 4, 7, 10, 11)
	done(t, w.f.Write(0, 6*128, text(4, 500))) // 6, 7, 8 and 9
	w.takes(t, 0, 12, 13, 1, 14, 15, 3, 4, 7, 10, 11)
	done(t, w.f.Write(1, 71*128, text(5, 129))) // 71 and 72
	w.takes(t, 1, 16, 17, 18, 19, 20)
	done(t, w.f.Write(0, 72*128-1, text(6, 2)))
	w.takes(t, 0, 12, 13, 1, 14, 15, 3, 4, 7, 10, 11, 21, 22, 23)
}

func TestWhatIsNamedStandsInFourBytes(t *testing.T) { // P13.3
	w := small.ready(t)
	w.file(t, 3)
	done(t, w.f.Write(3, (40+32*5+9)*128, []byte{1}))
	done(t, w.f.Write(3, (8+31)*128, []byte{1}))
	n, e := w.f.Get(3)
	base := w.base()
	want := api.Inode{Kind: 1, Links: 1, Size: (40+32*5+9)*128 + 1, Single: base + 3, Double: base}
	if n != want || e != api.OK {
		t.Errorf("Get = %v, %d, not %v", n, e, want)
	}
	for _, c := range []struct{ block, place, names int }{{base, 5, base + 1}, {base + 1, 9, base + 2}, {base + 3, 31, base + 4}} {
		want := make([]byte, 128)
		binary.LittleEndian.PutUint32(want[4*c.place:], uint32(c.names))
		if b, e := w.j.Read(c.block); !bytes.Equal(b, want) || e != api.OK {
			t.Errorf("the block %d is %x, %d, not %x", c.block, b, e, want)
		}
	}
}

func TestWhatWasGivenBackIsNoughts(t *testing.T) { // P13.3, P13.4
	w := small.ready(t)
	w.file(t, 0)
	done(t, w.f.Write(0, 0, text(9, 1024)))
	done(t, w.f.Write(0, 1024, text(8, 1024)))
	done(t, w.f.Cut(0, 0))
	w.free(t, 60)
	done(t, w.f.Write(0, 8*128+5, text(1, 3))) // Single is what the first block was
	w.takes(t, 0, 0, 1)
	w.reads(t, 0, 1024, 200, append(make([]byte, 5), text(1, 3)...))
	w.reads(t, 0, 0, 1024, make([]byte, 1024))
}

func TestOfNoBytesNothingChanges(t *testing.T) { // P13.3
	w := small.ready(t)
	w.file(t, 0)
	done(t, w.j.Commit())
	for _, off := range []int{0, 1, 5000, 136192} {
		done(t, w.f.Write(0, off, nil))
		done(t, w.f.Write(0, off, []byte{}))
		if l := w.j.Running(); len(l) != 0 {
			t.Errorf("at %d, Write writes %v", off, l)
		}
	}
}

func TestWriteTakesWhatIsAskedOnly(t *testing.T) { // P13.3, R3, R4
	w := small.ready(t)
	w.file(t, 0)
	long := text(1, 600)
	b := long[100:300]
	done(t, w.f.Write(0, 50, b))
	if !bytes.Equal(long, text(1, 600)) {
		t.Errorf("what was handed in is %x", long)
	}
	clear(long)
	want := append(make([]byte, 50), text(1, 600)[100:300]...)
	w.reads(t, 0, 0, 1024, want)
	got, _ := w.f.Read(0, 0, 1024)
	clear(got[:cap(got)])
	l, _ := w.f.Blocks(0)
	clear(l[:cap(l)])
	w.reads(t, 0, 0, 1024, want)
	w.takes(t, 0, 0, 1)
}

func TestReadEndsWithTheFile(t *testing.T) { // P13.3
	w := small.ready(t)
	w.file(t, 0)
	all := text(2, 1000)
	done(t, w.f.Write(0, 0, all))
	for _, off := range []int{0, 1, 127, 128, 129, 500, 998, 999, 1000, 1001, 1 << 40, 1<<63 - 1} {
		for _, n := range []int{0, 1, 2, 127, 128, 129, 872, 873, 1000, 1024} {
			want := all[min(off, 1000):]
			w.reads(t, 0, off, n, want[:min(n, len(want))])
		}
	}
}

func TestCutLeavesWhatIsAhead(t *testing.T) { // P13.3, P13.4
	for _, size := range []int{0, 1, 127, 128, 129, 1023, 1024, 1025, 1152, 5119, 5120, 5121, 5248, 9216, 9217, 9300, 9344, 9345} {
		w := small.ready(t)
		p := plainOf(small)
		w.file(t, 1)
		p.files[1].kind, p.files[1].links = 1, 1
		for _, off := range []int{0, 896, 1100, 4992, 5300, 8704, 9217} { // holes are between
			b := text(off, 128)
			done(t, w.f.Write(1, off, b))
			done(t, p.write(1, off, b))
			done(t, w.j.Commit())
		}
		done(t, w.f.Cut(1, size))
		p.cut(1, size)
		w.settle(t, p)
		done(t, w.f.Cut(1, 9345)) // what is new is noughts
		p.cut(1, 9345)
		w.settle(t, p)
		for off := 0; off < 9345; off += 1000 {
			w.reads(t, 1, off, 1000, p.files[1].read(off, 1000))
		}
	}
}

func TestCutMayMakeAFileLonger(t *testing.T) { // P13.3
	w := small.ready(t)
	w.file(t, 0)
	done(t, w.f.Write(0, 0, []byte{1, 2, 3}))
	for _, size := range []int{3, 4, 128, 129, 5000, 136192} {
		done(t, w.f.Cut(0, size))
		if n, e := w.f.Get(0); n.Size != size || e != api.OK {
			t.Errorf("Get = %v, %d, not of %d bytes", n, e, size)
		}
	}
	w.takes(t, 0, 0)
	w.reads(t, 0, 0, 6, []byte{1, 2, 3, 0, 0, 0})
	w.reads(t, 0, 136191, 9, []byte{0})
	is(t, "Cut", w.f.Cut(0, 136193), api.ErrFbig)
	done(t, w.f.Cut(0, 0))
	w.free(t, 60)
}

func TestWhatLiesBeyondIsGivenBackAlsoWhereTheSizeIsLess(t *testing.T) { // P13.3
	w := small.ready(t)
	w.file(t, 0)
	done(t, w.f.Write(0, 1000, text(1, 1000)))
	n, e := w.f.Get(0)
	done(t, e)
	n.Size = 10
	done(t, w.f.Set(0, n))
	w.reads(t, 0, 0, 1024, make([]byte, 10))
	done(t, w.f.Cut(0, 1030)) // the blocks 7 and 8 stay
	w.takes(t, 0, 0, 1, 2)
	// Size was not greater: what lies beyond stays, too.
	w.reads(t, 0, 1000, 1024, text(1, 30))
	done(t, w.f.Cut(0, 2000))
	w.reads(t, 0, 1000, 1024, append(text(1, 1000)[:152], make([]byte, 848)...))
}

func TestNoSpaceChangesNothing(t *testing.T) { // P13.3
	for free := range 13 {
		w := tight.ready(t)
		w.file(t, 0)
		for range 12 - free {
			_, e := w.m.Take()
			done(t, e)
		}
		done(t, w.j.Commit())
		for _, c := range []struct{ off, n, need int }{{0, 1024, 8}, {1024, 1024, 9}, {5120, 1, 3}, {9215, 2, 5}, {8705, 1024, 12}} {
			want := api.OK
			if c.need > free {
				want = api.ErrNospc
			}
			if n, e := w.f.Need(0, c.off, c.n); n != c.need || e != api.OK {
				t.Errorf("of %d free ones, Need(%d, %d) = %d, %d", free, c.off, c.n, n, e)
			}
			is(t, "Write", w.f.Write(0, c.off, text(1, c.n)), want)
			if want != api.OK {
				if l := w.j.Running(); len(l) != 0 {
					t.Errorf("Write writes %v", l)
				}
				w.free(t, free)
			}
			w.j.Abort()
		}
		done(t, w.f.Write(0, 5000, nil)) // of no bytes there is always room
	}
}

// alike tells whether two transactions write the same.
func alike(l, k []api.Write) bool {
	return slices.EqualFunc(l, k, func(a, b api.Write) bool { return a.Block == b.Block && bytes.Equal(a.Data, b.Data) })
}

func TestAFullTransactionChangesNothing(t *testing.T) { // P13.3, R2
	for had := range 25 {
		for _, c := range []struct {
			what string
			do   func(w *site) api.Errno
			need int // blocks of the transaction
		}{
			{"Set", func(w *site) api.Errno { return w.f.Set(1, api.Inode{Kind: 2}) }, 1},
			{"Write", func(w *site) api.Errno { return w.f.Write(0, 1, text(9, 1024)) }, 9 + 1},
			{"Write anew", func(w *site) api.Errno { return w.f.Write(0, 8705, text(9, 1024)) }, 12 + 2},
			{"Write a byte", func(w *site) api.Errno { return w.f.Write(0, 5120, text(9, 1)) }, 2 + 2 + 1},
			{"Write one more", func(w *site) api.Errno { return w.f.Write(0, 2048, text(9, 1)) }, 1 + 2 + 1},
			{"Cut", func(w *site) api.Errno { return w.f.Cut(0, 1) }, 3},
			{"Cut within", func(w *site) api.Errno { return w.f.Cut(0, 9*128+1) }, 4},
			{"Cut a hole", func(w *site) api.Errno { return w.f.Cut(0, 20*128+1) }, 1},
			{"Cut nothing", func(w *site) api.Errno { return w.f.Cut(0, 6000) }, 1},
		} {
			w := small.ready(t)
			w.file(t, 0)
			done(t, w.f.Write(0, 0, text(1, 1024)))
			done(t, w.f.Write(0, 1024, text(1, 1024)))
			done(t, w.j.Commit())
			for i := range had {
				done(t, w.j.Write(91-i, text(i, 128)))
			}
			was := w.j.Saved()
			e := c.do(w)
			want := api.OK
			if had+c.need > 24 {
				want = api.ErrFull
			}
			if e != want {
				t.Errorf("with %d blocks, %s = %d, not %d", had, c.what, e, want)
			}
			if e != api.OK && !alike(w.j.Saved(), was) {
				t.Errorf("with %d blocks, %s that is refused writes %v", had, c.what, w.j.Running())
			}
		}
	}
}

// thin lets the map have few free things, in different blocks of bits.
func (w *site) thin(t *testing.T, free ...int) {
	t.Helper()
	for n := range 4 {
		done(t, w.j.Write(1+n, bytes.Repeat([]byte{0xff}, 128)))
	}
	for _, i := range free {
		done(t, w.m.Give(i))
	}
	done(t, w.j.Commit())
}

func TestHowManyBlocksACallChanges(t *testing.T) { // P13.6
	w := huge.ready(t)
	w.thin(t, 0, 1, 2, 1024, 1025, 1030, 2048, 2060, 3071, 3072, 4094, 4095)
	for _, c := range []struct{ off, n, want int }{{8705, 1024, 17}, {4609, 1024, 17}, {1, 1024, 15}, {1023, 1024, 15}} {
		w.file(t, 0)
		done(t, w.j.Commit())
		done(t, w.f.Write(0, c.off, text(1, c.n)))
		if l := w.j.Running(); len(l) != c.want || len(l) > 18 {
			t.Errorf("Write(%d, %d) writes %v", c.off, c.n, l)
		}
		done(t, w.j.Commit())
		done(t, w.f.Cut(0, 0))
		if l := w.j.Running(); len(l) > 12 {
			t.Errorf("Cut to 0 writes %v", l)
		}
		done(t, w.j.Commit())
	}
}

func TestAFileOfAllBytes(t *testing.T) { // P13.3, P13.5, P13.6
	w := big.ready(t)
	w.file(t, 4)
	for off := 0; off < 136192; off += 1024 {
		done(t, w.f.Write(4, off, text(off/1024, 1024)))
		done(t, w.j.Commit())
	}
	w.free(t, 1300-1064-34)
	for _, x := range []struct{ off, n int }{{136191, 2}, {136192, 1}, {135169, 1024}} {
		is(t, "Write", w.f.Write(4, x.off, make([]byte, x.n)), api.ErrFbig)
		if n, e := w.f.Need(4, x.off, x.n); n != 0 || e != api.ErrFbig {
			t.Errorf("Need(%d, %d) = %d, %d", x.off, x.n, n, e)
		}
	}
	for off := 0; off < 136192; off += 1024 {
		w.reads(t, 4, off, 1024, text(off/1024, 1024))
	}
	l, e := w.f.Blocks(4)
	done(t, e)
	slices.Sort(l)
	if l = slices.Compact(l); len(l) != 1098 {
		t.Errorf("it takes %d blocks", len(l))
	}
	for _, c := range []struct{ size, free int }{
		{136191, 202}, {135168, 210}, {100000, 202 + 282 + 8}, {5121, 1300 - 41 - 3}, {5120, 1300 - 41}, {1025, 1300 - 10},
		{1024, 1300 - 8}, {1, 1300 - 1}, {0, 1300},
	} {
		done(t, w.f.Cut(4, c.size))
		w.free(t, c.free)
		if l := w.j.Running(); len(l) > 12 {
			t.Errorf("Cut(%d) writes %v", c.size, l)
		}
		done(t, w.j.Commit())
	}
}
