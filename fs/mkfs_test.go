package fs

import (
	"bytes"
	"encoding/binary"
	"fmt"
	"hash/crc32"
	"math"
	"slices"
	"testing"

	"ashlar/api"
	"ashlar/raid"
)

// sealed ends a block of a text and numbers of 4 bytes with its sum.
func sealed(text string, numbers ...int) []byte {
	b := []byte(text)
	for _, x := range numbers {
		b = binary.LittleEndian.AppendUint32(b, uint32(x))
	}
	b = append(b, make([]byte, 124-len(b))...)
	sum := crc32.Checksum(b, crc32.MakeTable(crc32.Castagnoli))
	return binary.LittleEndian.AppendUint32(b, sum)
}

func labelOf(size, inodes, ring int) []byte { return sealed("ASFS", size, inodes, ring) }

// fill lets all blocks of a volume have bytes that are no noughts.
func fill(t *testing.T, v *raid.Volume) {
	t.Helper()
	for n := range v.Size() {
		done(t, v.Write(n, []byte(text(n, 128))))
	}
	done(t, v.Flush())
}

func TestMkfsRefusals(t *testing.T) { // P16.2, R1
	is(t, "Mkfs of no volume", Mkfs(nil, 4, 28), api.ErrInval)
	is(t, "Mkfs of a volume that is zero", Mkfs(&raid.Volume{}, 4, 28), api.ErrInval)
	for _, x := range []struct {
		stripes, inodes, ring int
		want                  api.Errno
	}{
		{40, 2, 28, api.OK}, {40, 1, 28, api.ErrInval}, {40, 0, 28, api.ErrInval}, {40, -1, 28, api.ErrInval},
		{40, math.MinInt, 28, api.ErrInval}, {40, math.MaxInt, 28, api.ErrInval},
		{100, 256, 28, api.OK}, {100, 257, 28, api.ErrInval}, {100, 255, 28, api.OK},
		{40, 4, 27, api.ErrInval}, {40, 4, 0, api.ErrInval}, {40, 4, -1, api.ErrInval}, {40, 4, 29, api.OK},
		{40, 4, math.MinInt, api.ErrInval}, {40, 4, math.MaxInt, api.ErrInval},
		{40, 4, 75, api.OK}, {40, 4, 76, api.ErrInval}, {40, 4, 80, api.ErrInval}, {40, 4, 81, api.ErrInval},
		{40, 3, 75, api.OK}, {40, 3, 76, api.ErrInval}, {40, 2, 76, api.OK}, {40, 2, 77, api.ErrInval},
		{1, 256, math.MaxInt, api.ErrInval}, {1, 256, math.MaxInt - 1, api.ErrInval}, {40, 256, math.MaxInt, api.ErrInval},
		{16, 2, 28, api.OK}, {15, 2, 28, api.ErrInval}, {16, 5, 28, api.ErrInval}, {1, 2, 28, api.ErrInval},
		{579, 256, 1027, api.OK}, {579, 256, 1028, api.ErrInval}, {579, 256, 1029, api.ErrInval},
		{1024, 256, 28, api.OK}, {579, 4, 1153, api.OK}, {579, 4, 1154, api.ErrInval},
	} {
		s, v := shape{members: 3, stripes: x.stripes, logs: 1}.array(t)
		before := s.Count()
		what := fmt.Sprintf("Mkfs of %d blocks, %d, %d", 2*x.stripes, x.inodes, x.ring)
		is(t, what, Mkfs(v, x.inodes, x.ring), x.want)
		if x.want != api.OK && s.Count() != before {
			t.Errorf("%s: refused, but the disks were asked", what)
		}
		f, e := Mount(v, 8)
		is(t, "Mount behind "+what, e, x.want)
		if x.want != api.OK {
			continue
		}
		size := 2 * x.stripes
		want := min(size-x.ring-1-(size-x.ring+1023)/1024-(x.inodes+1)/2, 4096)
		if free, e := f.Space(); free != want || e != api.OK {
			t.Errorf("%s: Space = %d, %d, not %d", what, free, e, want)
		}
	}
}

func TestMkfsBlocks(t *testing.T) { // P16.2: what stands where, over what stood there
	great := shape{members: 16, stripes: 700, logs: 1, inodes: 33, ring: 100, most: 3} // more blocks than things
	for _, x := range []shape{small, middle, narrow, tight, wide, great} {
		s, v := x.array(t)
		fill(t, v)
		done(t, Mkfs(v, x.inodes, x.ring))
		s.Crash(nil)
		v, e := raid.Open(s)
		done(t, e)
		root := append([]byte{2, 0, 1, 0}, make([]byte, 124)...)
		for n := range x.size() {
			want := make([]byte, 128)
			switch {
			case n == 0:
				want = labelOf(x.size(), x.inodes, x.ring)
			case n == x.table():
				want = root
			case n >= x.base() && n < x.size()-x.ring:
				want = []byte(text(n, 128)) // the files' blocks are left alone
			case n == x.size()-x.ring:
				want = sealed("JHDR", 1)
			}
			if b, e := v.Read(n); e != api.OK || !bytes.Equal(b, want) {
				t.Fatalf("%v: the block %d is %x, %d, not %x", x, n, b, e, want)
			}
		}
		f, e := Mount(v, x.most)
		done(t, e)
		if free, e := f.Space(); free != x.things() || e != api.OK {
			t.Errorf("%v: Space = %d, %d, not %d", x, free, e, x.things())
		}
	}
	if got := great.things(); got != 4096 {
		t.Error(got)
	}
}

func TestMkfsFaults(t *testing.T) { // P16.1, P16.2
	s, v := small.array(t)
	s.Stop(0)
	is(t, "Mkfs without power", Mkfs(v, 4, 28), api.ErrOff)
	is(t, "Mkfs without power that may not be", Mkfs(v, 1, 28), api.ErrInval)
	s, v = small.array(t)
	done(t, s.Kill(0))
	done(t, s.Kill(1))
	is(t, "Mkfs with two dead", Mkfs(v, 4, 28), api.ErrIo)
	s, v = small.array(t)
	done(t, s.Kill(2))
	done(t, Mkfs(v, 4, 28))
	small.on(t, s).play(t, step{mkdir("/d"), err(0)}, step{list("/"), ok("d")})
}

// TestMkfsCrashes: the power goes at each write of a Mkfs, over an older file system: what is mounted then is the older one,
// as long as nothing else was written, or the new one, whole, or none.
func TestMkfsCrashes(t *testing.T) { // P16.2
	x := small
	old := x.ready(t)
	old.setUp(t, mkdir("/old"), open("/old/f", 7), write(0, text(3, 900)), sync())
	done(t, old.f.journal.Checkpoint()) // the ring does not bring it back
	was := old.image(t)
	old.s.Crash(nil)
	empty := shape{members: 3, spare: 1, stripes: 40, logs: 1, inodes: 6, ring: 30, most: 4}
	for n := 0; ; n++ {
		s := old.s.Fork()
		v, e := raid.Open(s)
		done(t, e)
		s.Stop(n)
		e = Mkfs(v, empty.inodes, empty.ring)
		if e != api.OK && e != api.ErrOff {
			t.Fatalf("Mkfs: %d", e)
		}
		for _, keep := range someKeeps(s) {
			crashed := s.Fork()
			crashed.Crash(keep)
			v, told := raid.Open(crashed)
			done(t, told)
			f, told := Mount(v, 4)
			switch {
			case told == api.ErrInval && e != api.OK:
				continue
			case told != api.OK:
				t.Fatalf("%d writes: Mount: %d", n, told)
			}
			w := &site{shape: empty, s: crashed, v: v, f: f}
			want := empty.plain().image()
			if free, _ := f.Space(); free != empty.things() {
				w.shape, want = x, was
			}
			sameImage(t, fmt.Sprint(n, " writes"), w.image(t), want)
		}
		if e == api.OK {
			return
		}
	}
}

func TestMountRefusals(t *testing.T) { // P16.1, P16.2, R1
	w := small.ready(t)
	for _, most := range []int{0, -1, 1025, math.MaxInt, math.MinInt} {
		f, e := Mount(w.v, most)
		if f != nil || e != api.ErrInval {
			t.Errorf("Mount(_, %d) = %v, %d", most, f, e)
		}
	}
	for _, most := range []int{1, 2, 1024} {
		if f, e := Mount(w.v, most); f == nil || e != api.OK {
			t.Errorf("Mount(_, %d) = %v, %d", most, f, e)
		}
	}
	if f, e := Mount(nil, 4); f != nil || e != api.ErrInval {
		t.Errorf("Mount(nil, 4) = %v, %d", f, e)
	}
	if f, e := Mount(&raid.Volume{}, 4); f != nil || e != api.ErrIo {
		t.Errorf("Mount of a volume that is zero = %v, %d", f, e)
	}
	_, v := small.array(t)
	if f, e := Mount(v, 4); f != nil || e != api.ErrInval {
		t.Errorf("Mount of noughts = %v, %d", f, e)
	}
	w.s.Stop(0)
	if f, e := Mount(w.v, 4); f != nil || e != api.ErrOff {
		t.Errorf("Mount without power = %v, %d", f, e)
	}
	if f, e := Mount(w.v, 0); f != nil || e != api.ErrInval {
		t.Errorf("Mount(_, 0) without power = %v, %d", f, e)
	}
}

// mountOver is what a Mount tells when some block has other bytes.
func mountOver(t *testing.T, x shape, block int, b []byte) api.Errno {
	t.Helper()
	w := x.ready(t)
	done(t, w.v.Write(block, b))
	f, e := Mount(w.v, w.most)
	if (f == nil) != (e != api.OK) {
		t.Errorf("Mount = %v, %d", f, e)
	}
	return e
}

func TestMountLabel(t *testing.T) { // P16.2
	right := labelOf(80, 4, 28)
	is(t, "the label", mountOver(t, small, 0, right), api.OK)
	for i := range right {
		for _, turned := range []byte{1, 0x20, 0x80, 0xff} {
			b := slices.Clone(right)
			b[i] ^= turned
			is(t, fmt.Sprint("the label with another byte ", i), mountOver(t, small, 0, b), api.ErrInval)
		}
	}
	behind := func(at int) []byte { // a byte that is no nought, and a right sum
		b := slices.Clone(right[:124])
		b[at] = 1
		return sealed(string(b))
	}
	for _, at := range []int{16, 17, 60, 123} {
		is(t, fmt.Sprint("a label with a 1 at ", at), mountOver(t, small, 0, behind(at)), api.ErrInval)
	}
	for _, x := range []struct{ size, inodes, ring int }{
		{79, 4, 28}, {81, 4, 28}, {0, 4, 28}, {80 + 1<<31, 4, 28}, {1<<32 - 1, 4, 28},
		{80, 1, 28}, {80, 0, 28}, {80, 257, 28}, {80, 1<<32 - 1, 28}, {80, 4, 27}, {80, 4, 0}, {80, 4, 77}, {80, 4, 80},
		{80, 4, 81}, {80, 4, 1<<32 - 1},
		{80, 4, 29}, // a layout that may be, but no journal begins there
	} {
		what := fmt.Sprintf("the label of %d blocks, %d files, a ring of %d", x.size, x.inodes, x.ring)
		is(t, what, mountOver(t, small, 0, labelOf(x.size, x.inodes, x.ring)), api.ErrInval)
	}
	is(t, "another magic word", mountOver(t, small, 0, sealed("asfs", 80, 4, 28)), api.ErrInval)
	is(t, "the label of 6 files", mountOver(t, small, 0, labelOf(80, 6, 28)), api.OK) // nothing tells that it was another one
}

func TestMountBroken(t *testing.T) { // P16.1, P16.2: a journal without head is ErrInval, files that say nothing ErrIo
	is(t, "no head", mountOver(t, small, 52, make([]byte, 128)), api.ErrInval)
	is(t, "the head with an at beyond the ring", mountOver(t, small, 52, sealed("JHDR", 1, 0, 27)), api.ErrInval)
	is(t, "a head", mountOver(t, small, 52, sealed("JHDR", 9, 0, 26)), api.OK)
	last := binary.LittleEndian.AppendUint64([]byte("JHDR"), 1<<62)
	is(t, "a head with the last number", mountOver(t, small, 52, sealed(string(last))), api.ErrIo)
	is(t, "a table that says nothing", mountOver(t, small, 2, bytes.Repeat([]byte{3}, 128)), api.ErrIo)
	broken := slices.Concat(make([]byte, 64), []byte{1, 1}, make([]byte, 62))
	is(t, "a last file that says nothing", mountOver(t, small, 3, broken), api.ErrIo)
	_, sectors := small.ready(t).s.Size()
	for block, want := range map[int]api.Errno{0: api.ErrIo, 1: api.ErrIo, 2: api.ErrIo, 3: api.ErrIo, 4: api.OK, 51: api.OK, 52: api.ErrIo, 53: api.ErrIo, 60: api.OK} {
		w := small.ready(t)
		lack(t, w, block, sectors)
		f, e := Mount(w.v, w.most)
		if (f == nil) != (e != api.OK) {
			t.Errorf("Mount = %v, %d", f, e)
		}
		is(t, fmt.Sprint("Mount without the block ", block), e, want)
	}
}

// TestLastNumber: a journal whose numbers are at an end is ErrIo (P16.1): Commit's ErrArg.
func TestLastNumber(t *testing.T) {
	w := middle.ready(t)
	last := binary.LittleEndian.AppendUint64([]byte("JHDR"), 1<<62-2)
	done(t, w.v.Write(w.size()-w.ring, sealed(string(last))))
	var e api.Errno
	w.f, e = Mount(w.v, w.most) // its number is 2^62 - 1
	done(t, e)
	w.setUp(t, open("/x", 7), sync(), write(0, "x"), sync(), seek(0, 0, 0))
	w.play(t, step{write(0, text(1, 1024)), ok(1024)}, step{sync(), err(10)}, step{fsync(0), err(10)}, step{write(0, text(2, 1024)), ok(1024)},
		step{write(0, text(3, 1024)), no[int](10)}, step{seek(0, 0, 1), ok(2048)}, step{stat("/x"), ok(api.Stat{Ino: 1, Kind: 1, Links: 1, Size: 2048})})
}

// lack lets a block of the volume be lacking, so that nothing tells what it should be: two of its stripe turn.
func lack(t *testing.T, w *site, block, sectors int) {
	t.Helper()
	done(t, w.v.Flush())
	stripe := block / (w.members - 1)
	n := 2 + 2*w.logs + stripe
	sector := 17*(n/16) + 1 + n%16
	parity := w.members - 1 - stripe%w.members
	for _, disk := range []int{parity, (parity + 1 + block%(w.members-1)) % w.members} {
		done(t, w.s.Corrupt(disk, sector, 77, 0x55))
	}
	if b, e := w.v.Read(block); e != api.ErrIo {
		t.Fatalf("the block %d is %x, %d", block, b, e)
	}
}

// orphans are files without links, as a crash leaves them: one of them a directory, one with all kinds of blocks.
func orphans(t *testing.T, x shape) (*site, *plain) {
	t.Helper()
	w, p := x.ready(t), x.plain()
	for _, o := range []op{
		mkdir("/d"), open("/d/keep", 7), write(0, text(1, 700)),
		open("/a", 7), write(1, text(2, 1024)), seek(1, 5100, 0), write(1, text(3, 200)), seek(1, 136000, 0), write(1, text(4, 100)),
		open("/b", 7), write(2, text(5, 300)), unlink("/a"), unlink("/b"), sync(),
	} {
		if got, want := o.do(w.f), o.do(p); got != want {
			t.Fatalf("%s = %s, not %s", o.what, got, want)
		}
	}
	sameImage(t, "ahead of the crash", w.image(t), p.image())
	return w, p
}

func TestMountFreesFiles(t *testing.T) { // P16.2, P16.8
	w, p := orphans(t, middle)
	w.crash(t)
	if l := w.f.journal.Running(); len(l) != 0 {
		t.Errorf("behind a Mount %v run yet", l)
	}
	sameImage(t, "behind a Mount", w.image(t), p.crashed().image())
	w.sound(t)
	w.s.Crash(nil)
	w.f, w.v = nil, nil
	w.mount(t)
	sameImage(t, "behind another one", w.image(t), p.crashed().image())
	w.play(t, step{open("/e", 7), ok(0)}, step{stat("/e"), ok(api.Stat{Ino: 3, Kind: 1, Links: 1})}) // what was freed is taken anew
}

// TestMountFreesMany: each file without links is freed, of whichever kind, by rising numbers; for all of them at once no
// transaction has room, and the power may go in between (P16.2, P16.7, P16.8).
func TestMountFreesMany(t *testing.T) {
	for _, x := range []shape{middle, wide} {
		w := x.ready(t)
		free := x.things()
		for ino := 1; ino < x.inodes; ino++ {
			n := api.Inode{Kind: 1 + ino%2, Links: ino % 4 / 3}
			done(t, w.f.table.Set(ino, n))
			done(t, w.f.table.Write(ino, 0, make([]byte, 32*(ino%16))))
			done(t, w.f.journal.Commit())
			free -= n.Links * (ino%16 + 3) / 4
		}
		w.s.Crash(nil)
		for n := 0; n < 4000; n += 1 + n/4 {
			s := w.s.Fork()
			s.Stop(n)
			if v, e := raid.Open(s); e == api.OK {
				Mount(v, x.most)
			}
			s.Crash(nil)
			c := x.on(t, s)
			if l := c.f.journal.Running(); len(l) != 0 {
				t.Errorf("behind a Mount %v run yet", l)
			}
			for ino := 1; ino < x.inodes; ino++ {
				got, e := c.f.table.Get(ino)
				done(t, e)
				if has := ino%4 == 3; has != (got.Links == 1) || has != (got.Kind != 0) || has && got.Size != 32*(ino%16) {
					t.Fatalf("the power gone behind %d writes: the file %d is %v", n, ino, got)
				}
			}
			if got, e := c.f.Space(); got != free || e != api.OK {
				t.Fatalf("the power gone behind %d writes: %d blocks are free, not %d", n, got, free)
			}
		}
	}
}

// TestMountCrashes: the power goes at each write of a Mount that does transactions again and frees files.
func TestMountCrashes(t *testing.T) { // P16.7
	for _, x := range []shape{middle, narrow} {
		w, p := orphans(t, x)
		want := p.crashed().image()
		w.s.Crash(nil)
		for n := 0; ; n++ {
			s := w.s.Fork()
			v, e := raid.Open(s)
			done(t, e)
			s.Stop(n)
			f, e := Mount(v, x.most)
			if (f == nil) != (e != api.OK) || e != api.OK && e != api.ErrOff {
				t.Fatalf("Mount = %v, %d", f, e)
			}
			for _, keep := range someKeeps(s) {
				again := s.Fork()
				again.Crash(keep)
				if n%3 == 1 {
					done(t, again.Kill(n/3%x.members))
				}
				w := x.on(t, again)
				sameImage(t, fmt.Sprint(n, " writes"), w.image(t), want)
				w.sound(t)
			}
			if e == api.OK {
				break
			}
		}
	}
}

func TestNoFileSystem(t *testing.T) { // "Of a nil FS: ErrClosed, 0, nothing", ahead of all other errors
	for _, f := range []*FS{nil, {}} {
		for _, x := range []step{
			{open("/x", 7), no[int](2)}, {open("", 0), no[int](2)}, {closing(0), err(2)}, {closing(-1), err(2)},
			{read(0, 1), no[[]byte](2)}, {read(-1, -1), no[[]byte](2)}, {write(0, "a"), no[int](2)},
			{write(-1, text(1, 2000)), no[int](2)}, {seek(0, 0, 0), no[int](2)}, {seek(0, 0, 9), no[int](2)},
			{truncate(0, 0), err(2)}, {truncate(0, -1), err(2)}, {unlink("/x"), err(2)}, {unlink(""), err(2)},
			{mkdir("/x"), err(2)}, {mkdir("x"), err(2)}, {rmdir("/x"), err(2)}, {rmdir("/"), err(2)},
			{link("/x", "/y"), err(2)}, {link("", ""), err(2)}, {rename("/x", "/y"), err(2)}, {rename("/", ""), err(2)},
			{stat("/"), no[api.Stat](2)}, {stat(""), no[api.Stat](2)}, {list("/"), no[string](2)}, {list("."), no[string](2)},
			{fsync(0), err(2)}, {fsync(-5), err(2)}, {sync(), err(2)}, {space(), no[int](2)},
		} {
			if got := x.do(f); got != x.want {
				t.Errorf("%s of no file system: %s, not %s", x.what, got, x.want)
			}
		}
	}
}
