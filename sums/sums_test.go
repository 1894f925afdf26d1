package sums

import (
	"bytes"
	"encoding/binary"
	"hash/crc32"
	"math"
	"math/rand"
	"testing"

	"ashlar/api"
	"ashlar/shelf"
)

// edges are whole numbers at which a call may go wrong.
func edges() []int {
	return []int{
		math.MinInt, math.MinInt + 1, -1 << 32, -4097, -18, -17, -16, -2, -1,
		0, 1, 2, 3, 15, 16, 17, 18, 19, 31, 32, 127, 128, 3854, 3855, 3856, 4095, 4096, 4097, 1 << 16, 1<<32 - 1, 1 << 32, 1<<32 + 1,
		math.MaxInt - 1, math.MaxInt,
	}
}

// text is a block of which each byte is another one.
func text(x byte) []byte {
	b := make([]byte, api.Sector)
	for i := range b {
		b[i] = x + byte(i)
	}
	return b
}

func noughts() []byte { return make([]byte, api.Sector) }

// sumOf is Sum, told by another's sum of the same polynomial.
func sumOf(disk, block int, b []byte) uint32 {
	all := binary.LittleEndian.AppendUint32(nil, uint32(disk))
	all = binary.LittleEndian.AppendUint32(all, uint32(block))
	return crc32.Checksum(append(all, b...), crc32.MakeTable(crc32.Castagnoli))
}

// twin has other bytes from one on, of the same sum: put together, the two are the sums' polynomial.
func twin(b []byte, from int) []byte {
	b = bytes.Clone(b)
	polynomial := uint64(0x11EDC6F41)
	for i := range 33 {
		b[from+i/8] ^= byte(polynomial>>(32-i)&1) << (i % 8)
	}
	return b
}

func shelfOf(t *testing.T, disks, sectors int) *shelf.Shelf {
	t.Helper()
	s, e := shelf.New(disks, sectors)
	done(t, e)
	return s
}

func opened(t *testing.T, s *shelf.Shelf, disk int) *Dev {
	t.Helper()
	d, e := Open(s, disk)
	if e != api.OK || d == nil {
		t.Fatalf("Open(%d) = %v, %d", disk, d, e)
	}
	return d
}

// done fails if a call was refused.
func done(t *testing.T, e api.Errno) {
	t.Helper()
	if e != api.OK {
		t.Fatalf("error %d", e)
	}
}

// is fails if a call answers another error than the one that is asked for.
func is(t *testing.T, what string, got, want api.Errno) {
	t.Helper()
	if got != want {
		t.Errorf("%s: %d, not %d", what, got, want)
	}
}

// has fails if a block has other bytes, or is bad.
func has(t *testing.T, d *Dev, block int, want []byte) {
	t.Helper()
	if b, e := d.Read(block); e != api.OK || !bytes.Equal(b, want) {
		t.Errorf("Read(%d) = %x, %d, not %x", block, b, e, want)
	}
}

// isBad fails if a block is not bad.
func isBad(t *testing.T, d *Dev, block int) {
	t.Helper()
	if b, e := d.Read(block); e != api.ErrBad || b != nil {
		t.Errorf("Read(%d) = %x, %d: it is bad", block, b, e)
	}
}

// sector is what stands in one.
func sector(t *testing.T, s *shelf.Shelf, disk, n int) []byte {
	t.Helper()
	b, e := s.Read(disk, n)
	done(t, e)
	return b
}

// put makes a sector have bytes, surely.
func put(t *testing.T, s *shelf.Shelf, disk, n int, b []byte) {
	t.Helper()
	done(t, s.Write(disk, n, b))
	done(t, s.Flush(disk))
}

// putSums makes a block have two sums, surely.
func putSums(t *testing.T, s *shelf.Shelf, disk, block int, a, b uint32) {
	t.Helper()
	n := 17 * (block / 16)
	all := sector(t, s, disk, n)
	binary.LittleEndian.PutUint32(all[8*(block%16):], a)
	binary.LittleEndian.PutUint32(all[8*(block%16)+4:], b)
	put(t, s, disk, n, all)
}

// hasSums fails if a block's sums are others.
func hasSums(t *testing.T, s *shelf.Shelf, disk, block int, a, b uint32) {
	t.Helper()
	all := sector(t, s, disk, 17*(block/16))
	at := 8 * (block % 16)
	if x, y := binary.LittleEndian.Uint32(all[at:]), binary.LittleEndian.Uint32(all[at+4:]); x != a || y != b {
		t.Errorf("the block %d has the sums %x, %x, not %x, %x", block, x, y, a, b)
	}
}

func TestExample(t *testing.T) { // the chapter's example
	if n := Blocks(20); n != 18 {
		t.Errorf("Blocks(20) = %d", n)
	}
	if s, d, e := Place(17); s != 17 || d != 19 || e != api.OK {
		t.Errorf("Place(17) = %d, %d, %d", s, d, e)
	}
	d := opened(t, shelfOf(t, 1, 20), 0)
	for block := range 18 {
		has(t, d, block, noughts())
	}
}

func TestBlocksAreAllButTheSumsSectors(t *testing.T) { // P6.1
	want := 0
	for sectors := range 5000 {
		if n := Blocks(sectors); n != want {
			t.Errorf("Blocks(%d) = %d, not %d", sectors, n, want)
		}
		if sectors%17 != 0 {
			want++
		}
	}
	for sectors, want := range map[int]int{-1: 0, -2: 0, -17: 0, -18: 0, math.MinInt: 0, math.MaxInt: math.MaxInt/17*16 + math.MaxInt%17 - 1, 4096: 3855} {
		if n := Blocks(sectors); n != want {
			t.Errorf("Blocks(%d) = %d, not %d", sectors, n, want)
		}
	}
}

func TestPlaceTellsBothSectors(t *testing.T) { // P6.1
	sum, data := 0, 0
	for block := range 4096 {
		if block%16 == 0 {
			sum, data = 17*(block/16), 17*(block/16)
		}
		data++
		if s, d, e := Place(block); s != sum || d != data || e != api.OK {
			t.Errorf("Place(%d) = %d, %d, %d, not %d, %d", block, s, d, e, sum, data)
		}
	}
	for _, block := range edges() {
		s, d, e := Place(block)
		if (e == api.OK) != (block >= 0 && block <= 4095) || (e != api.OK && (e != api.ErrArg || s != 0 || d != 0)) {
			t.Errorf("Place(%d) = %d, %d, %d", block, s, d, e)
		}
	}
}

func TestSumIsOverWhereAndWhat(t *testing.T) { // P6.1
	long := bytes.Repeat(text(9), 3)
	for _, disk := range edges() {
		for _, block := range edges() {
			for _, b := range [][]byte{nil, {}, {0}, text(0), noughts(), long[:127], long} {
				if x := Sum(disk, block, b); x != sumOf(disk, block, b) {
					t.Errorf("Sum(%d, %d, %x) = %x, not %x", disk, block, b, x, sumOf(disk, block, b))
				}
			}
		}
	}
	b := text(3)
	if Sum(1<<32+5, 7, b) != Sum(5, 7, b) || Sum(5, 7-1<<32, b) != Sum(5, 7, b) || Sum(-1, 0, b) != Sum(1<<32-1, 0, b) {
		t.Error("where it is goes modulo 2^32")
	}
	if Sum(5, 7, b) == Sum(7, 5, b) || !bytes.Equal(b, text(3)) {
		t.Error("a disk is no block; what is handed in stays as it is")
	}
	if Sum(1, 2, b[:5:9]) != Sum(1, 2, bytes.Clone(b[:5])) {
		t.Error("what lies behind the length is read")
	}
}

func TestOpenTakesAndRefuses(t *testing.T) { // P6.2
	for _, disks := range []int{1, 2, 17} {
		s := shelfOf(t, disks, 3)
		for _, disk := range edges() {
			d, e := Open(s, disk)
			there := disk >= 0 && disk < disks
			if there != (e == api.OK) || there != (d != nil) || (!there && e != api.ErrArg) {
				t.Errorf("of %d disks Open(%d) = %v, %d", disks, disk, d, e)
			}
		}
		if s.Count() != 0 {
			t.Error("Open reads, or writes")
		}
	}
	for _, disk := range edges() {
		for _, s := range []*shelf.Shelf{nil, {}} {
			if d, e := Open(s, disk); d != nil || e != api.ErrArg {
				t.Errorf("Open(%v, %d) = %v, %d", s, disk, d, e)
			}
		}
	}
}

func TestOpenWithoutPowerAndOfTheDead(t *testing.T) { // P6.2: only the calls are refused
	s := shelfOf(t, 2, 20)
	done(t, s.Kill(1))
	s.Stop(0)
	for disk := range 2 {
		d := opened(t, s, disk)
		if d.Blocks() != 18 || d.Dead() != (disk == 1) {
			t.Errorf("disk %d: Blocks = %d, Dead = %v", disk, d.Blocks(), d.Dead())
		}
	}
}

func TestBlocksOfADisk(t *testing.T) { // P6.2
	for _, sectors := range []int{1, 2, 16, 17, 18, 19, 34, 35, 36, 4095, 4096} {
		d := opened(t, shelfOf(t, 2, sectors), 1)
		n := sectors - (sectors+16)/17
		if d.Blocks() != n {
			t.Errorf("of %d sectors Blocks = %d, not %d", sectors, d.Blocks(), n)
		}
		for _, block := range append(edges(), n-1, n, n+1) {
			want := api.OK
			if block < 0 || block >= n {
				want = api.ErrArg
			}
			b, e := d.Read(block)
			is(t, "Read", e, want)
			if (want == api.OK) != (len(b) == 128) || (want != api.OK && b != nil) {
				t.Errorf("Read(%d) = %x", block, b)
			}
			is(t, "Write", d.Write(block, text(1)), want)
		}
	}
}

func TestEachBlockHasItsOwnBytesAndSums(t *testing.T) { // P6.2, P6.3
	s := shelfOf(t, 3, 40)
	d := opened(t, s, 2)
	for block := range d.Blocks() {
		done(t, d.Write(block, text(byte(block))))
	}
	done(t, d.Flush())
	s.Crash(nil)
	d = opened(t, s, 2)
	for block := range d.Blocks() {
		has(t, d, block, text(byte(block)))
		if at := 17*(block/16) + 1 + block%16; !bytes.Equal(sector(t, s, 2, at), text(byte(block))) {
			t.Errorf("the block %d is not in the sector %d", block, at)
		}
		hasSums(t, s, 2, block, sumOf(2, block, noughts()), sumOf(2, block, text(byte(block))))
	}
	for n := range 40 {
		if !bytes.Equal(sector(t, s, 0, n), noughts()) || !bytes.Equal(sector(t, s, 1, n), noughts()) {
			t.Error("another disk was written")
		}
	}
}

func TestWriteTakes128Bytes(t *testing.T) { // P6.3
	s := shelfOf(t, 1, 5)
	d := opened(t, s, 0)
	done(t, d.Write(2, text(1)))
	count := s.Count()
	for _, size := range []int{0, 1, 127, 129, 256} {
		is(t, "Write", d.Write(2, make([]byte, size)), api.ErrArg)
	}
	is(t, "Write of nothing", d.Write(2, nil), api.ErrArg)
	is(t, "Write of a short list", d.Write(2, make([]byte, 127, 200)), api.ErrArg)
	if s.Count() != count {
		t.Error("what is refused reads, or writes")
	}
	has(t, d, 2, text(1))
}

func TestErrorsInTheirOrder(t *testing.T) { // P6.2, P6.3, R2
	s := shelfOf(t, 2, 5)
	d := opened(t, s, 0)
	done(t, s.Corrupt(0, 2, 0, 1)) // the block 1 is bad
	done(t, s.Kill(0))
	for _, want := range []api.Errno{api.ErrDead, api.ErrOff} {
		if !d.Dead() {
			t.Error("the disk is dead")
		}
		for block := range 2 {
			b, e := d.Read(block)
			is(t, "Read", e, want)
			if b != nil {
				t.Errorf("%x", b)
			}
			is(t, "Write", d.Write(block, text(1)), want)
			is(t, "Write of no block", d.Write(4, text(1)), api.ErrArg)
			is(t, "Write of few bytes", d.Write(block, make([]byte, 5)), api.ErrArg)
		}
		is(t, "Flush", d.Flush(), want)
		_, e := d.Read(-1)
		is(t, "Read of no block", e, api.ErrArg)
		s.Stop(0)
	}
	if other := opened(t, s, 1); other.Dead() {
		t.Error("another disk is not dead")
	}
}

func TestABlockIsGoodByOneOfItsSums(t *testing.T) { // P6.1, P6.2
	good, other := sumOf(1, 20, text(5)), sumOf(1, 20, text(6))
	for _, c := range []struct {
		a, b uint32
		bad  bool
	}{
		{good, other, false}, {other, good, false}, {good, good, false}, {good, 0, false}, {0, good, false},
		{other, other, true}, {0, 0, true}, {0, other, true}, {good + 1, good - 1, true},
		{sumOf(0, 20, text(5)), sumOf(1, 19, text(5)), true}, // of another disk, of another block
		{crc32.Checksum(text(5), crc32.MakeTable(crc32.Castagnoli)), 0, true},
	} {
		s := shelfOf(t, 2, 40)
		put(t, s, 1, 22, text(5))
		putSums(t, s, 1, 20, c.a, c.b)
		d := opened(t, s, 1)
		if c.bad {
			isBad(t, d, 20)
		} else {
			has(t, d, 20, text(5))
		}
		has(t, d, 19, noughts())
		has(t, d, 21, noughts())
	}
}

func TestNoughtsWithoutSumsAreGood(t *testing.T) { // P6.2
	sum := sumOf(0, 3, noughts())
	for _, c := range []struct {
		a, b uint32
		bad  bool
	}{{0, 0, false}, {0, 1, true}, {1, 0, true}, {1, 1, true}, {sum, 1, false}, {0, sum, false}} {
		s := shelfOf(t, 1, 9)
		putSums(t, s, 0, 3, c.a, c.b)
		d := opened(t, s, 0)
		if c.bad {
			isBad(t, d, 3)
		} else {
			has(t, d, 3, noughts())
		}
		has(t, d, 2, noughts())
	}
}

func TestReadReadsTwoSectors(t *testing.T) { // P6.2: the shelf's Count is to be seen above
	s := shelfOf(t, 1, 20)
	d := opened(t, s, 0)
	for block := range 18 {
		d.Read(block)
		if s.Count() != 2*(block+1) {
			t.Errorf("behind %d reads %d were counted", block+1, s.Count())
		}
	}
}

// spends fails if a call takes another number of the shelf's.
func spends(t *testing.T, s *shelf.Shelf, what string, want int, call func() api.Errno) {
	t.Helper()
	before := s.Count()
	is(t, what, call(), api.OK)
	if n := s.Count() - before; n != want {
		t.Errorf("%s took %d reads, writes and flushes, not %d", what, n, want)
	}
}

func TestWriteFlushesWhatIsOpen(t *testing.T) { // P6.3
	s := shelfOf(t, 2, 40)
	d := opened(t, s, 1)
	write := func(block int) func() api.Errno {
		return func() api.Errno { return d.Write(block, text(byte(s.Count()))) }
	}
	spends(t, s, "the first write", 5, write(0))
	spends(t, s, "the open block's", 6, write(0))
	spends(t, s, "the open block's again", 6, write(0))
	spends(t, s, "another one's", 5, write(1))
	spends(t, s, "the one's of before", 5, write(0))
	d.Read(3)
	spends(t, s, "one behind a read", 6, write(0))
	spends(t, s, "a flush", 1, d.Flush)
	spends(t, s, "one behind a flush", 5, write(0))
	is(t, "a write that may not be", d.Write(0, nil), api.ErrArg)
	spends(t, s, "one behind it", 6, write(0))
	s.Crash(nil)
	d = opened(t, s, 1)
	spends(t, s, "the first one behind a crash", 5, write(0))
	if s.Waits(1) != 1 || s.Waits(0) != 0 {
		t.Errorf("%d and %d wait", s.Waits(0), s.Waits(1))
	}
	spends(t, s, "a flush", 1, d.Flush)
	if s.Waits(1) != 0 {
		t.Errorf("%d wait", s.Waits(1))
	}
}

func TestAFlushThatIsRefusedLeavesTheBlockOpen(t *testing.T) { // P6.2
	s := shelfOf(t, 1, 9)
	d := opened(t, s, 0)
	done(t, d.Write(1, text(1)))
	s.Stop(0)
	is(t, "Flush", d.Flush(), api.ErrOff)
	s.Crash([][]int{{0}})
	spends(t, s, "the open block's write", 6, func() api.Errno { return d.Write(1, text(2)) })
}

func TestWriteTellsTheOldSumAndTheNewOne(t *testing.T) { // P6.3
	s := shelfOf(t, 1, 40)
	d := opened(t, s, 0)
	old := noughts()
	for k := range 20 {
		b := text(byte(7 * k))
		before := sector(t, s, 0, 17)
		done(t, d.Write(19, b))
		hasSums(t, s, 0, 19, sumOf(0, 19, old), sumOf(0, 19, b))
		after := sector(t, s, 0, 17)
		copy(before[24:32], after[24:32])
		if !bytes.Equal(before, after) {
			t.Error("another block's sums were written")
		}
		has(t, d, 19, b)
		old = b
		if k%3 == 0 {
			done(t, d.Write(18, text(byte(k))))
			done(t, d.Flush())
		}
	}
}

func TestWriteOfABadBlockTellsTheNewSumTwice(t *testing.T) { // P6.3, P6.6
	s := shelfOf(t, 1, 9)
	d := opened(t, s, 0)
	done(t, d.Write(3, text(1)))
	done(t, d.Flush())
	done(t, s.Corrupt(0, 4, 100, 0x10))
	isBad(t, d, 3)
	spends(t, s, "a bad block's write", 5, func() api.Errno { return d.Write(3, text(2)) })
	hasSums(t, s, 0, 3, sumOf(0, 3, text(2)), sumOf(0, 3, text(2)))
	has(t, d, 3, text(2))
	done(t, d.Write(3, text(3)))
	hasSums(t, s, 0, 3, sumOf(0, 3, text(2)), sumOf(0, 3, text(3)))
}

// stage is what two sectors have, and how many writes wait, behind some writes and flushes of a Write.
type stage struct {
	data  []byte
	sums  [2]uint32
	waits int
}

// stages fails if the block 3 of the disk 0 does not go through stages when it is written: behind each write and flush one.
func stages(t *testing.T, s *shelf.Shelf, open func(*shelf.Shelf) *Dev, b []byte, want []stage) {
	t.Helper()
	for n, w := range append(want, want[len(want)-1]) {
		f := s.Fork()
		d := open(f)
		f.Stop(n)
		e := d.Write(3, b)
		if n < len(want)-1 {
			is(t, "Write", e, api.ErrOff)
		} else {
			is(t, "Write", e, api.OK)
		}
		if f.Waits(0) != w.waits {
			t.Errorf("behind %d writes and flushes %d wait, not %d", n, f.Waits(0), w.waits)
		}
		all := make([]int, 9)
		for i := range all {
			all[i] = i
		}
		f.Crash([][]int{all})
		if !bytes.Equal(sector(t, f, 0, 4), w.data) {
			t.Errorf("behind %d writes and flushes: %x, not %x", n, sector(t, f, 0, 4), w.data)
		}
		hasSums(t, f, 0, 3, w.sums[0], w.sums[1])
	}
}

// anew opens the disk 0.
func anew(t *testing.T) func(*shelf.Shelf) *Dev {
	return func(s *shelf.Shelf) *Dev { return opened(t, s, 0) }
}

func TestTheStagesOfAWrite(t *testing.T) { // P6.3
	s := shelfOf(t, 1, 9)
	d := opened(t, s, 0)
	done(t, d.Write(3, text(1)))
	done(t, d.Flush())
	none, old, new := sumOf(0, 3, noughts()), sumOf(0, 3, text(1)), sumOf(0, 3, text(2))
	stages(t, s, anew(t), text(2), []stage{
		{text(1), [2]uint32{none, old}, 0},
		{text(1), [2]uint32{old, new}, 1},
		{text(1), [2]uint32{old, new}, 0},
		{text(2), [2]uint32{old, new}, 1},
	})
}

func TestTheStagesOfAnOpenBlocksWrite(t *testing.T) { // P6.3: it is flushed first
	s := shelfOf(t, 1, 9)
	none, old, new := sumOf(0, 3, noughts()), sumOf(0, 3, text(1)), sumOf(0, 3, text(2))
	open := func(f *shelf.Shelf) *Dev {
		d := opened(t, f, 0)
		done(t, d.Write(3, text(1)))
		return d
	}
	stages(t, s, open, text(2), []stage{
		{text(1), [2]uint32{none, old}, 1},
		{text(1), [2]uint32{none, old}, 0},
		{text(1), [2]uint32{old, new}, 1},
		{text(1), [2]uint32{old, new}, 0},
		{text(2), [2]uint32{old, new}, 1},
	})
}

func TestTheStagesOfABadBlocksWrite(t *testing.T) { // P6.3
	s := shelfOf(t, 1, 9)
	put(t, s, 0, 4, text(1))
	putSums(t, s, 0, 3, 77, 78)
	new := sumOf(0, 3, text(2))
	stages(t, s, anew(t), text(2), []stage{
		{text(1), [2]uint32{77, 78}, 0},
		{text(1), [2]uint32{new, new}, 1},
		{text(1), [2]uint32{new, new}, 0},
		{text(2), [2]uint32{new, new}, 1},
	})
}

// first is a block with another first byte.
func first(b []byte, x byte) []byte {
	b = bytes.Clone(b)
	b[0] = x
	return b
}

func TestABadBlockOfTheNewSumIsSpoiltFirst(t *testing.T) { // P6.3
	for _, begin := range []byte{0, 1, 9, 253, 254, 255} {
		was := first(text(40), begin)
		sumWith := func(more byte) uint32 { return sumOf(0, 3, first(was, begin+more)) }
		for _, c := range []struct {
			sums [2]uint32
			more byte
		}{
			{[2]uint32{77, 78}, 1},
			{[2]uint32{sumWith(1), 78}, 2},
			{[2]uint32{77, sumWith(1)}, 2},
			{[2]uint32{sumWith(2), sumWith(1)}, 3},
			{[2]uint32{sumWith(1), sumWith(2)}, 3},
			{[2]uint32{sumWith(2), sumWith(3)}, 1},
			{[2]uint32{sumWith(255), sumWith(1)}, 2},
			{[2]uint32{0, 0}, 1},
		} {
			for _, b := range [][]byte{was, twin(was, 0), twin(was, 50), twin(was, 123)} { // the same bytes, or others of their sum
				s := shelfOf(t, 1, 9)
				put(t, s, 0, 4, was)
				putSums(t, s, 0, 3, c.sums[0], c.sums[1])
				isBad(t, opened(t, s, 0), 3)
				spoilt, sum := first(was, begin+c.more), sumOf(0, 3, was)
				if sumOf(0, 3, b) != sum {
					t.Fatal("a twin has another sum")
				}
				stages(t, s, anew(t), b, []stage{
					{was, c.sums, 0},
					{spoilt, c.sums, 1},
					{spoilt, c.sums, 0},
					{spoilt, [2]uint32{sum, sum}, 1},
					{spoilt, [2]uint32{sum, sum}, 0},
					{b, [2]uint32{sum, sum}, 1},
				})
			}
		}
	}
}

func TestAGoodBlockOfTheNewSumIsNotSpoilt(t *testing.T) { // P6.3
	s := shelfOf(t, 1, 9)
	d := opened(t, s, 0)
	done(t, d.Write(3, text(1)))
	done(t, d.Flush())
	sum := sumOf(0, 3, text(1))
	for _, b := range [][]byte{text(1), twin(text(1), 9), text(1)} {
		done(t, d.Flush())
		spends(t, s, "a write of the same sum", 5, func() api.Errno { return d.Write(3, b) })
		hasSums(t, s, 0, 3, sum, sum)
		has(t, d, 3, b)
	}
}

func TestAnOpenBlockWhoseSumsTurned(t *testing.T) { // P6.3: bad and open, and of the new sum
	s := shelfOf(t, 1, 9)
	d := opened(t, s, 0)
	done(t, d.Write(3, text(1)))
	for _, at := range []int{24, 28} { // the two sums' lowest bytes
		done(t, s.Corrupt(0, 0, at, 0x40))
	}
	isBad(t, d, 3)
	spends(t, s, "the write", 8, func() api.Errno { return d.Write(3, text(1)) })
	has(t, d, 3, text(1))
	hasSums(t, s, 0, 3, sumOf(0, 3, text(1)), sumOf(0, 3, text(1)))
	has(t, d, 2, noughts())
}

func TestWhatTheShelfRefusesIsToldAtOnce(t *testing.T) { // P6.3
	// The disk dies behind n writes and flushes: what is refused then is told, and nothing is done any more.
	for n := range 6 {
		s := shelfOf(t, 1, 9)
		put(t, s, 0, 4, text(1))
		putSums(t, s, 0, 3, 77, 78)
		d := opened(t, s, 0)
		count := s.Count()
		s.Stop(n)
		want := api.ErrOff
		if n == 5 {
			want = api.OK
		}
		is(t, "Write", d.Write(3, text(1)), want)
		reads := 2
		if n == 0 {
			reads = 0
		}
		if got := s.Count() - count; got != n+reads {
			t.Errorf("%d were done, not %d", got, n+reads)
		}
	}
}

// job is a block that is written, or a flush.
type job struct {
	block int // -1: a flush
	x     byte
}

// run does jobs till one is refused; may gathers what each block may have behind a crash: at its last flush, or since.
func run(d *Dev, jobs []job, may map[int][]byte) {
	for _, j := range jobs {
		if j.block < 0 {
			if d.Flush() != api.OK {
				return
			}
			for block, l := range may {
				may[block] = l[len(l)-1:]
			}
			continue
		}
		may[j.block] = append(may[j.block], j.x)
		if d.Write(j.block, text(j.x)) != api.OK {
			return
		}
	}
}

// crashes calls a function with each state that a crash may leave: whichever of what waits is kept.
func crashes(s *shelf.Shelf, disk int, then func(*shelf.Shelf)) {
	for kept := range 1 << s.Waits(disk) {
		keep := make([][]int, disk+1)
		for number := range s.Waits(disk) {
			if kept>>number&1 == 1 {
				keep[disk] = append(keep[disk], number)
			}
		}
		f := s.Fork()
		f.Crash(keep)
		then(f)
	}
}

// hasOneOf fails if a block is bad, or has nothing that it may have.
func hasOneOf(t *testing.T, d *Dev, block int, may []byte) {
	t.Helper()
	b, e := d.Read(block)
	if e != api.OK {
		t.Errorf("the block %d: error %d", block, e)
		return
	}
	for _, x := range may {
		if bytes.Equal(b, text(x)) {
			return
		}
	}
	t.Errorf("the block %d has %x", block, b)
}

// leavesABeginning cuts the power at each write and flush of some jobs, and looks at whatever a crash may leave.
func leavesABeginning(t *testing.T, jobs []job) {
	t.Helper()
	base := shelfOf(t, 2, 30)
	d := opened(t, base, 1)
	for block := range 20 {
		done(t, d.Write(block, text(byte(block))))
	}
	done(t, d.Flush())
	for n := 0; ; n++ {
		s, may := base.Fork(), map[int][]byte{}
		for block := range 20 {
			may[block] = []byte{byte(block)}
		}
		s.Stop(n)
		run(opened(t, s, 1), jobs, may)
		crashes(s, 1, func(f *shelf.Shelf) {
			d := opened(t, f, 1)
			for block := range 20 {
				hasOneOf(t, d, block, may[block])
			}
		})
		if !s.Off() {
			return
		}
	}
}

func TestACrashLeavesABeginning(t *testing.T) { // P6.4
	leavesABeginning(t, []job{{3, 100}, {3, 101}, {3, 102}, {-1, 0}, {3, 103}, {3, 104}})
	leavesABeginning(t, []job{{3, 100}, {4, 101}, {3, 102}, {17, 103}, {3, 104}, {-1, 0}, {17, 105}, {17, 103}})
	leavesABeginning(t, []job{{0, 0}, {0, 100}, {0, 0}, {0, 0}, {16, 100}, {0, 101}, {15, 101}, {-1, 0}, {-1, 0}, {19, 100}})
}

func TestCrashesByChance(t *testing.T) { // P6.4
	for seed := range 20 {
		r := rand.New(rand.NewSource(int64(seed)))
		jobs := make([]job, 12)
		for i := range jobs {
			jobs[i] = job{[]int{-1, 2, 3, 3, 15, 16}[r.Intn(6)], byte(100 + r.Intn(4))}
		}
		leavesABeginning(t, jobs)
	}
}

func TestACrashWhileABadBlockIsWritten(t *testing.T) { // P6.4, P6.6: it stays bad, or has the new bytes; the others are as they were
	for _, turn := range [][3]int{{4, 0, 255}, {4, 127, 1}, {4, 0, 1}} {
		for _, b := range [][]byte{text(1), text(9), twin(first(text(1), text(1)[0]^1), 0)} {
			s := shelfOf(t, 1, 9)
			d := opened(t, s, 0)
			done(t, d.Write(2, text(5)))
			done(t, d.Write(3, text(1)))
			done(t, d.Flush())
			done(t, s.Corrupt(0, turn[0], turn[1], byte(turn[2])))
			isBad(t, d, 3)
			crashAll(t, s, 3, b)
		}
	}
}

// crashAll cuts the power at each write and flush with which a bad block gets bytes.
func crashAll(t *testing.T, s *shelf.Shelf, block int, b []byte) {
	t.Helper()
	for n := 0; ; n++ {
		f := s.Fork()
		f.Stop(n)
		opened(t, f, 0).Write(block, b)
		crashes(f, 0, func(f *shelf.Shelf) {
			d := opened(t, f, 0)
			has(t, d, 2, text(5))
			if got, e := d.Read(block); e != api.ErrBad && !bytes.Equal(got, b) {
				t.Errorf("behind %d writes and flushes: %x, %d", n, got, e)
			}
			done(t, d.Write(block, b))
			done(t, d.Flush())
			has(t, d, block, b)
		})
		if !f.Off() {
			return
		}
	}
}

func TestACrashWhileABadBlockOfTheNewSumIsWritten(t *testing.T) { // P6.4: what was bad is never taken for what it was to be
	for _, b := range [][]byte{twin(text(1), 0), twin(text(1), 70), text(1)} {
		s := shelfOf(t, 1, 9)
		d := opened(t, s, 0)
		done(t, d.Write(2, text(5)))
		done(t, d.Flush())
		put(t, s, 0, 4, text(1))
		putSums(t, s, 0, 3, 77, 78)
		crashAll(t, s, 3, b)
	}
}

func TestATurnedByteIsBad(t *testing.T) { // P6.5
	for _, b := range [][]byte{noughts(), text(1), text(200)} {
		for _, block := range []int{0, 3, 16} {
			s := shelfOf(t, 1, 30)
			d := opened(t, s, 0)
			done(t, d.Write(block, b))
			done(t, d.Flush())
			_, at, _ := Place(block)
			for i := range 128 {
				for _, with := range []byte{1, 2, 16, 128, 255, byte(i + 1)} {
					done(t, s.Corrupt(0, at, i, with))
					isBad(t, d, block)
					done(t, s.Corrupt(0, at, i, with))
					has(t, d, block, b)
				}
			}
		}
	}
}

func TestATurnedByteOfABlockWithoutSums(t *testing.T) { // P6.5
	s := shelfOf(t, 1, 30)
	d := opened(t, s, 0)
	for i := range 128 {
		for _, block := range []int{0, 15, 16} {
			_, at, _ := Place(block)
			done(t, s.Corrupt(0, at, i, 1<<(i%8)))
			isBad(t, d, block)
			done(t, s.Corrupt(0, at, i, 1<<(i%8)))
			has(t, d, block, noughts())
		}
	}
}

func TestTurnedBackToTheOldBytesIsGood(t *testing.T) { // P6.5: the sum of what it has then stands there
	s := shelfOf(t, 1, 9)
	d := opened(t, s, 0)
	done(t, d.Write(3, text(1)))
	done(t, d.Write(3, first(text(1), 200)))
	done(t, d.Flush())
	done(t, s.Corrupt(0, 4, 0, 200^1))
	has(t, d, 3, text(1))
	done(t, s.Corrupt(0, 4, 0, 1))
	isBad(t, d, 3)
}

func TestTurnedSums(t *testing.T) { // P6.5: by the second sum a block is good, of which the first is of no matter, and the other way round
	s := shelfOf(t, 1, 30)
	d := opened(t, s, 0)
	done(t, d.Write(18, text(1)))
	done(t, d.Flush())
	for at := range 8 {
		done(t, s.Corrupt(0, 17, 16+at, 0x21))
		if at < 4 {
			has(t, d, 18, text(1))
		} else {
			isBad(t, d, 18)
		}
		has(t, d, 17, noughts())
		isBad(t, opened(t, twiceTurned(t, s, at), 0), 18)
		done(t, s.Corrupt(0, 17, 16+at, 0x21))
		has(t, d, 18, text(1))
	}
	done(t, s.Corrupt(0, 17, 8, 1)) // the block 17 had no sums
	isBad(t, d, 17)
	has(t, d, 16, noughts())
}

// twiceTurned is another shelf, of which the other sum of the block 18 is turned, too.
func twiceTurned(t *testing.T, s *shelf.Shelf, at int) *shelf.Shelf {
	f := s.Fork()
	done(t, f.Corrupt(0, 17, 16+(at+4)%8, 0x80))
	return f
}

func TestBlocksThatLieElsewhereAreBad(t *testing.T) { // P6.1, P6.2
	s := shelfOf(t, 2, 30)
	d := opened(t, s, 0)
	done(t, d.Write(3, text(1)))
	done(t, d.Flush())
	put(t, s, 1, 0, sector(t, s, 0, 0))
	put(t, s, 1, 4, sector(t, s, 0, 4))
	isBad(t, opened(t, s, 1), 3)
	put(t, s, 0, 17, sector(t, s, 0, 0)) // the block 19 has the sums of 3 now
	put(t, s, 0, 21, sector(t, s, 0, 4))
	isBad(t, d, 19)
	has(t, d, 3, text(1))
}

func TestWhatIsWrittenAnewIsGood(t *testing.T) { // P6.6
	r := rand.New(rand.NewSource(6))
	s := shelfOf(t, 1, 20)
	d := opened(t, s, 0)
	for range 300 {
		done(t, d.Flush())
		for range 20 {
			done(t, s.Corrupt(0, r.Intn(20), r.Intn(128), byte(r.Intn(256))))
		}
		want := map[int]byte{}
		for range 20 {
			block, x := r.Intn(18), byte(r.Intn(256))
			done(t, d.Write(block, text(x)))
			want[block] = x
		}
		for block, x := range want {
			has(t, d, block, text(x))
		}
	}
}

func TestAllSumsMayBeWrong(t *testing.T) { // P6.6: the sums' sector has any bytes
	s := shelfOf(t, 1, 17)
	put(t, s, 0, 0, text(0x55))
	d := opened(t, s, 0)
	for block := range 16 {
		isBad(t, d, block)
	}
	for block := range 16 {
		done(t, d.Write(block, noughts()))
		has(t, d, block, noughts())
	}
	done(t, d.Flush())
	for block := range 16 {
		has(t, d, block, noughts())
	}
}

func TestWhatIsHandedInIsNotKept(t *testing.T) { // R3
	d := opened(t, shelfOf(t, 1, 9), 0)
	b := text(1)
	done(t, d.Write(3, b))
	if !bytes.Equal(b, text(1)) {
		t.Error("what was handed in is another one now")
	}
	clear(b)
	has(t, d, 3, text(1))
	// Also where the block that was there has to be spoilt.
	s := shelfOf(t, 1, 9)
	put(t, s, 0, 4, text(1))
	putSums(t, s, 0, 3, 77, 78)
	b = text(1)
	done(t, opened(t, s, 0).Write(3, b))
	if !bytes.Equal(b, text(1)) {
		t.Error("what was handed in is another one now")
	}
}

func TestWhatIsHandedOutIsTheCallersOwn(t *testing.T) { // R3
	d := opened(t, shelfOf(t, 1, 9), 0)
	done(t, d.Write(3, text(1)))
	a, _ := d.Read(3)
	b, _ := d.Read(3)
	clear(a)
	if !bytes.Equal(b, text(1)) {
		t.Error("two answers share their memory")
	}
	has(t, d, 3, text(1))
}

func TestForksKnowNothingOfEachOther(t *testing.T) { // R5
	s := shelfOf(t, 1, 9)
	d := opened(t, s, 0)
	done(t, d.Write(3, text(1)))
	f := opened(t, s.Fork(), 0)
	done(t, d.Write(3, text(2)))
	has(t, f, 3, text(1))
	done(t, f.Write(3, text(3)))
	has(t, d, 3, text(2))
}

func TestANilDev(t *testing.T) { // P6.3, P1
	var d *Dev
	for _, block := range edges() {
		b, e := d.Read(block)
		if b != nil || e != api.ErrClosed {
			t.Errorf("Read = %x, %d", b, e)
		}
		is(t, "Write", d.Write(block, text(1)), api.ErrClosed)
		is(t, "Write of nothing", d.Write(block, nil), api.ErrClosed)
	}
	is(t, "Flush", d.Flush(), api.ErrClosed)
	if d.Blocks() != 0 || d.Dead() {
		t.Error("a nil Dev has something")
	}
}

func TestADevThatNobodyOpened(t *testing.T) { // P1
	d := &Dev{}
	for _, block := range edges() {
		_, e := d.Read(block)
		is(t, "Read", e, api.ErrArg)
		is(t, "Write", d.Write(block, text(1)), api.ErrArg)
	}
	d.Flush()
	if d.Blocks() != 0 || d.Dead() {
		t.Error("it has something")
	}
}
