package shelf

import (
	"bytes"
	"math"
	"math/rand"
	"slices"
	"testing"

	"ashlar/api"
)

// edges are whole numbers at which a call may go wrong.
func edges() []int {
	return []int{
		math.MinInt, math.MinInt + 1, -1 << 32, -4097, -18, -17, -2, -1,
		0, 1, 2, 3, 16, 17, 18, 19, 126, 127, 128, 129, 255, 256, 4095, 4096, 4097, 1 << 16, 1 << 32, 1<<32 + 1,
		math.MaxInt - 1, math.MaxInt,
	}
}

// filled is a sector that has one byte throughout.
func filled(x byte) []byte {
	return bytes.Repeat([]byte{x}, api.Sector)
}

// counting is a sector of which each byte is another one.
func counting(x byte) []byte {
	b := make([]byte, api.Sector)
	for i := range b {
		b[i] = x + byte(i)
	}
	return b
}

// made is a shelf that there may be.
func made(t *testing.T, disks, sectors int) *Shelf {
	t.Helper()
	s, e := New(disks, sectors)
	if e != api.OK || s == nil {
		t.Fatalf("New(%d, %d) = %v, %d", disks, sectors, s, e)
	}
	return s
}

// is fails if a call answers another error than the one that is asked for.
func is(t *testing.T, what string, got, want api.Errno) {
	t.Helper()
	if got != want {
		t.Errorf("%s: %d, not %d", what, got, want)
	}
}

// has fails if a sector has other bytes.
func has(t *testing.T, s *Shelf, d, n int, want []byte) {
	t.Helper()
	if b, e := s.Read(d, n); e != api.OK || !bytes.Equal(b, want) {
		t.Errorf("Read(%d, %d) = %x, %d, not %x", d, n, b, e, want)
	}
}

// wrote fails if a write, or a flush, is not OK.
func wrote(t *testing.T, e api.Errno) {
	t.Helper()
	if e != api.OK {
		t.Fatalf("error %d", e)
	}
}

func TestExample(t *testing.T) { // the chapter's example
	s := made(t, 1, 7)
	a, b, c := filled('a'), filled('b'), filled('c')
	wrote(t, s.Write(0, 5, a))
	wrote(t, s.Flush(0))
	wrote(t, s.Write(0, 5, b))
	wrote(t, s.Write(0, 6, c))
	s.Crash([][]int{{1}})
	has(t, s, 0, 5, a)
	has(t, s, 0, 6, c)
}

func TestNewTakesAndRefusesAtEachEdge(t *testing.T) { // P5.1, P5.4
	for _, disks := range edges() {
		for _, sectors := range edges() {
			s, e := New(disks, sectors)
			if disks < 1 || disks > 17 || sectors < 1 || sectors > 4096 {
				if e != api.ErrArg || s != nil {
					t.Errorf("New(%d, %d) = %v, %d", disks, sectors, s, e)
				}
				continue
			}
			if e != api.OK || s == nil {
				t.Fatalf("New(%d, %d) = %v, %d", disks, sectors, s, e)
			}
			if d, n := s.Size(); d != disks || n != sectors {
				t.Errorf("New(%d, %d) has the size %d, %d", disks, sectors, d, n)
			}
			if s.Off() || s.Count() != 0 || s.Dead(0) || s.Waits(disks-1) != 0 {
				t.Errorf("New(%d, %d) is not new", disks, sectors)
			}
		}
	}
}

func TestAllIsNoughtsAtFirst(t *testing.T) { // P5.1
	for _, size := range [][2]int{{1, 1}, {2, 5}, {17, 40}, {1, 4096}, {17, 1}} {
		s := made(t, size[0], size[1])
		for d := range size[0] {
			for n := range size[1] {
				has(t, s, d, n, make([]byte, 128))
			}
		}
	}
}

func TestDisksAndSectorsThatThereAreNot(t *testing.T) { // P5.1, P5.2, P5.4
	for _, size := range [][2]int{{1, 1}, {2, 3}, {17, 128}, {17, 4096}} {
		s := made(t, size[0], size[1])
		count := 0
		for _, d := range edges() {
			isDisk := d >= 0 && d < size[0]
			is(t, "Flush", s.Flush(d), argUnless(isDisk))
			if isDisk {
				count++
			}
			for _, n := range edges() {
				isSector := isDisk && n >= 0 && n < size[1]
				b, e := s.Read(d, n)
				is(t, "Read", e, argUnless(isSector))
				if isSector != (len(b) == 128) || !isSector && b != nil {
					t.Errorf("Read(%d, %d) = %x", d, n, b)
				}
				is(t, "Write", s.Write(d, n, filled(1)), argUnless(isSector))
				if isSector {
					count += 2
				}
			}
		}
		if s.Count() != count {
			t.Errorf("Count() = %d, not %d", s.Count(), count)
		}
	}
}

// argUnless is ErrArg, unless a thing is there.
func argUnless(there bool) api.Errno {
	if there {
		return api.OK
	}
	return api.ErrArg
}

func TestDisksThatThereAreNotAreNotKilled(t *testing.T) { // P5.1, P5.4
	for _, disks := range []int{1, 2, 17} {
		for _, d := range edges() {
			s := made(t, disks, 2)
			there := d >= 0 && d < disks
			if s.Dead(d) || s.Waits(d) != 0 {
				t.Errorf("of %d disks %d is dead, or something waits", disks, d)
			}
			is(t, "Kill", s.Kill(d), argUnless(there))
			if s.Dead(d) != there {
				t.Errorf("of %d disks %d was killed: Dead = %v", disks, d, s.Dead(d))
			}
			for k := range disks {
				if s.Dead(k) != (k == d) {
					t.Errorf("of %d disks %d was killed: %d is dead, or not", disks, d, k)
				}
			}
			if s.Count() != 0 {
				t.Error("Kill counts")
			}
		}
	}
}

func TestWriteTakes128Bytes(t *testing.T) { // P5.1
	s := made(t, 1, 2)
	wrote(t, s.Write(0, 1, filled(7)))
	for _, size := range []int{0, 1, 64, 127, 129, 255, 256, 4096} {
		is(t, "Write", s.Write(0, 1, make([]byte, size)), api.ErrArg)
	}
	is(t, "Write of nothing", s.Write(0, 1, nil), api.ErrArg)
	// What lies behind the list's length is not looked at.
	is(t, "Write of a short list", s.Write(0, 1, make([]byte, 127, 200)), api.ErrArg)
	wrote(t, s.Write(0, 0, append(make([]byte, 0, 300), filled(8)...)))
	has(t, s, 0, 1, filled(7))
	has(t, s, 0, 0, filled(8))
	if s.Waits(0) != 2 || s.Count() != 4 {
		t.Errorf("%d wait, %d were counted", s.Waits(0), s.Count())
	}
}

func TestReadTellsWhatWasWrittenLast(t *testing.T) { // P5.1
	s := made(t, 2, 4)
	wrote(t, s.Write(1, 2, counting(1)))
	has(t, s, 1, 2, counting(1))
	wrote(t, s.Write(1, 2, counting(2)))
	wrote(t, s.Write(1, 3, counting(9)))
	has(t, s, 1, 2, counting(2))
	wrote(t, s.Flush(1))
	has(t, s, 1, 2, counting(2))
	wrote(t, s.Write(1, 2, counting(3)))
	has(t, s, 1, 2, counting(3))
	wrote(t, s.Write(1, 2, counting(4)))
	wrote(t, s.Write(1, 2, counting(5)))
	wrote(t, s.Flush(1))
	s.Crash(nil)
	has(t, s, 1, 2, counting(5))
	has(t, s, 1, 3, counting(9))
	has(t, s, 0, 2, filled(0))
}

func TestFlushIsOfOneDisk(t *testing.T) { // P5.1, P5.6
	s := made(t, 3, 2)
	for d := range 3 {
		wrote(t, s.Write(d, 1, filled(byte(d+1))))
	}
	wrote(t, s.Flush(1))
	for d, want := range []int{1, 0, 1} {
		if s.Waits(d) != want {
			t.Errorf("of the disk %d %d wait", d, s.Waits(d))
		}
	}
	s.Crash(nil)
	has(t, s, 0, 1, filled(0))
	has(t, s, 1, 1, filled(2))
	has(t, s, 2, 1, filled(0))
}

func TestADeadDiskAnswersNothing(t *testing.T) { // P5.1
	s := made(t, 2, 3)
	wrote(t, s.Write(0, 1, filled(1)))
	wrote(t, s.Kill(0))
	wrote(t, s.Kill(0))
	count := s.Count()
	refusesAll(t, s, 0, api.ErrDead)
	if s.Count() != count || s.Waits(0) != 1 || !s.Dead(0) {
		t.Errorf("%d were counted, %d wait", s.Count()-count, s.Waits(0))
	}
	s.Crash([][]int{{0}})
	refusesAll(t, s, 0, api.ErrDead)
	wrote(t, s.Write(1, 1, filled(2)))
	wrote(t, s.Flush(1))
	has(t, s, 1, 1, filled(2))
	if !s.Dead(0) || s.Dead(1) {
		t.Error("a disk lives again, or another one died")
	}
}

// refusesAll fails if a disk's calls that there may be do not answer an error, or those that may not be another one than ErrArg.
func refusesAll(t *testing.T, s *Shelf, d int, want api.Errno) {
	t.Helper()
	b, e := s.Read(d, 1)
	is(t, "Read", e, want)
	if b != nil {
		t.Errorf("Read tells %x", b)
	}
	is(t, "Write", s.Write(d, 1, filled(9)), want)
	is(t, "Flush", s.Flush(d), want)
	_, e = s.Read(d, -1)
	is(t, "Read of no sector", e, api.ErrArg)
	_, e = s.Read(-1, 1)
	is(t, "Read of no disk", e, api.ErrArg)
	is(t, "Write of no sector", s.Write(d, 5000, filled(9)), api.ErrArg)
	is(t, "Write of 127 bytes", s.Write(d, 1, make([]byte, 127)), api.ErrArg)
	is(t, "Flush of no disk", s.Flush(17), api.ErrArg)
}

func TestWithoutPowerNothingIsAnswered(t *testing.T) { // P5.1, P5.3
	s := made(t, 2, 3)
	wrote(t, s.Write(1, 1, filled(1)))
	wrote(t, s.Kill(0))
	s.Stop(0)
	count := s.Count()
	refusesAll(t, s, 1, api.ErrOff)
	refusesAll(t, s, 0, api.ErrOff) // it is dead, too, but that is named later
	if s.Count() != count || s.Waits(1) != 1 {
		t.Errorf("%d were counted, %d wait", s.Count()-count, s.Waits(1))
	}
	is(t, "Kill", s.Kill(1), api.OK)
	is(t, "Kill", s.Kill(2), api.ErrArg)
	if !s.Dead(1) || !s.Off() {
		t.Error("a disk dies also when the power is off, and that stays so")
	}
	s.Crash(nil)
	refusesAll(t, s, 1, api.ErrDead)
}

func TestCorruptTurnsOneByte(t *testing.T) { // P5.2
	for _, at := range []int{0, 1, 63, 126, 127} {
		for with := range 256 {
			s := made(t, 2, 3)
			wrote(t, s.Write(1, 2, counting(200)))
			wrote(t, s.Flush(1))
			want := counting(200)
			want[at] ^= byte(with)
			wrote(t, s.Corrupt(1, 2, at, byte(with)))
			has(t, s, 1, 2, want)
			s.Crash(nil) // it is sure
			has(t, s, 1, 2, want)
			has(t, s, 1, 1, filled(0))
			has(t, s, 0, 2, filled(0))
			wrote(t, s.Corrupt(1, 2, at, byte(with)))
			has(t, s, 1, 2, counting(200))
		}
	}
}

func TestCorruptOfNoughts(t *testing.T) { // P5.2: a sector that nobody wrote, too
	s := made(t, 1, 3)
	wrote(t, s.Corrupt(0, 1, 4, 0x81))
	want := filled(0)
	want[4] = 0x81
	has(t, s, 0, 1, want)
	has(t, s, 0, 0, filled(0))
	has(t, s, 0, 2, filled(0))
}

func TestCorruptRefuses(t *testing.T) { // P5.2
	s := made(t, 2, 3)
	for _, d := range edges() {
		for _, n := range edges() {
			for _, at := range edges() {
				there := d >= 0 && d < 2 && n >= 0 && n < 3 && at >= 0 && at < 128
				is(t, "Corrupt", s.Corrupt(d, n, at, 0), argUnless(there))
			}
		}
	}
	if s.Count() != 0 {
		t.Error("Corrupt counts")
	}
}

func TestCorruptRefusesASectorThatWaits(t *testing.T) { // P5.2
	s := made(t, 2, 3)
	wrote(t, s.Write(0, 1, counting(1)))
	is(t, "of a sector that waits", s.Corrupt(0, 1, 0, 1), api.ErrState)
	is(t, "at no byte of it", s.Corrupt(0, 1, 128, 1), api.ErrArg)
	is(t, "of another sector", s.Corrupt(0, 2, 0, 1), api.OK)
	is(t, "of another disk", s.Corrupt(1, 1, 0, 1), api.OK)
	has(t, s, 0, 1, counting(1))
	s.Stop(0)
	is(t, "without power", s.Corrupt(0, 1, 0, 1), api.ErrState)
	wrote(t, s.Kill(0))
	is(t, "of a dead disk", s.Corrupt(0, 1, 0, 1), api.ErrState)
	s.Crash(nil)
	is(t, "behind a crash", s.Corrupt(0, 1, 0, 1), api.OK)

	f := made(t, 1, 3)
	wrote(t, f.Write(0, 1, counting(1)))
	wrote(t, f.Write(0, 1, counting(2)))
	wrote(t, f.Flush(0))
	is(t, "behind a flush", f.Corrupt(0, 1, 0, 1), api.OK)
	has(t, f, 0, 1, append([]byte{3}, counting(2)[1:]...))
}

func TestCorruptWithoutPowerAndOfTheDead(t *testing.T) { // P5.2
	s := made(t, 2, 3)
	s.Stop(0)
	is(t, "without power", s.Corrupt(0, 2, 5, 7), api.OK)
	is(t, "of no disk", s.Corrupt(2, 2, 5, 7), api.ErrArg)
	s.Crash(nil)
	want := filled(0)
	want[5] = 7
	has(t, s, 0, 2, want)
	wrote(t, s.Kill(1))
	is(t, "of a dead disk", s.Corrupt(1, 2, 5, 7), api.OK)
	if got := s.disks[1].sure[2]; got != string(want) {
		t.Errorf("a dead disk's sector is %x", got)
	}
	is(t, "of no sector of it", s.Corrupt(1, 3, 5, 7), api.ErrArg)
}

func TestThePowerGoesBehindSoManyWritesAndFlushes(t *testing.T) { // P5.3
	for n := range 6 {
		s := made(t, 2, 3)
		wrote(t, s.Kill(1))
		s.Stop(n)
		for k := range 8 {
			want := api.OK
			if k >= n {
				want = api.ErrOff
			}
			if s.Off() != (k >= n) {
				t.Errorf("Stop(%d): behind %d Off = %v", n, k, s.Off())
			}
			_, e := s.Read(0, 0) // a read does not count
			is(t, "Read", e, want)
			s.Write(0, 9, filled(1)) // nor what is refused
			s.Write(1, 0, filled(1))
			s.Flush(1)
			s.Flush(-1)
			if k%2 == 0 {
				is(t, "Write", s.Write(0, k%3, filled(1)), want)
			} else {
				is(t, "Flush", s.Flush(0), want)
			}
		}
		s.Crash(nil)
		if s.Off() {
			t.Error("behind a crash the power is on")
		}
		for range 20 {
			wrote(t, s.Flush(0))
		}
	}
}

func TestWritesOfAllDisksSpendThePower(t *testing.T) { // P5.3
	s := made(t, 3, 1)
	s.Stop(3)
	for d := range 3 {
		wrote(t, s.Write(d, 0, filled(1)))
	}
	for d := range 3 {
		is(t, "Flush", s.Flush(d), api.ErrOff)
	}
}

func TestStopNeverAndAnew(t *testing.T) { // P5.3
	for _, never := range []int{-1, -2, math.MinInt} {
		s := made(t, 1, 1)
		s.Stop(never)
		flushes(t, s, 9)
		s.Stop(2)
		s.Stop(never)
		flushes(t, s, 9)
		s.Stop(5)
		flushes(t, s, 3)
		s.Stop(4) // the newest one counts, from now on
		flushes(t, s, 4)
		if !s.Off() {
			t.Error("the power is on")
		}
		s.Stop(never)
		s.Stop(7)
		is(t, "Flush", s.Flush(0), api.ErrOff)
		s.Crash(nil)
		flushes(t, s, 20) // the Stop without power changed nothing, and none is left
		s.Stop(1)
		s.Crash(nil)
		flushes(t, s, 20)
		s.Stop(math.MaxInt)
		flushes(t, s, 20)
	}
}

func flushes(t *testing.T, s *Shelf, n int) {
	t.Helper()
	for range n {
		wrote(t, s.Flush(0))
	}
}

// waiting is a disk of which the sectors 0 to 2 are sure, and five writes wait: two sectors' twice.
func waiting(t *testing.T) *Shelf {
	s := made(t, 2, 4)
	for n := range 3 {
		wrote(t, s.Write(0, n, filled(byte(100+n))))
		wrote(t, s.Write(1, n, filled(byte(200+n))))
	}
	wrote(t, s.Flush(0))
	wrote(t, s.Flush(1))
	for number, n := range []int{0, 1, 0, 3, 1} {
		wrote(t, s.Write(0, n, filled(byte(number+1))))
	}
	wrote(t, s.Write(1, 0, filled(50)))
	return s
}

func TestACrashKeepsTheWritesThatAreNamed(t *testing.T) { // P5.3
	for _, c := range []struct {
		keep [][]int
		want [4]byte
	}{
		{nil, [4]byte{100, 101, 102, 0}},
		{[][]int{}, [4]byte{100, 101, 102, 0}},
		{[][]int{nil}, [4]byte{100, 101, 102, 0}},
		{[][]int{{}}, [4]byte{100, 101, 102, 0}},
		{[][]int{{0, 1, 2, 3, 4}}, [4]byte{3, 5, 102, 4}},
		{[][]int{{0}}, [4]byte{1, 101, 102, 0}},
		{[][]int{{2}}, [4]byte{3, 101, 102, 0}},
		{[][]int{{2, 0}}, [4]byte{3, 101, 102, 0}}, // in the writes' order, not in the list's
		{[][]int{{4, 1}}, [4]byte{100, 5, 102, 0}},
		{[][]int{{3}}, [4]byte{100, 101, 102, 4}},
		{[][]int{{0, 0, 0}}, [4]byte{1, 101, 102, 0}},
		{[][]int{{-1, 5, 6, math.MinInt, math.MaxInt}}, [4]byte{100, 101, 102, 0}},
		{[][]int{{-1, 1, 5, 1 << 32}}, [4]byte{100, 2, 102, 0}},
		{[][]int{{3}, {7}, {0}, {1, 2}, nil}, [4]byte{100, 101, 102, 4}},
	} {
		s := waiting(t)
		s.Crash(c.keep)
		for n, x := range c.want {
			has(t, s, 0, n, filled(x))
		}
		has(t, s, 1, 0, filled(200))
		if s.Waits(0) != 0 || s.Waits(1) != 0 || s.Off() {
			t.Errorf("Crash(%v): something waits, or the power is off", c.keep)
		}
	}
}

func TestEachDiskHasItsOwnList(t *testing.T) { // P5.3, P5.6
	s := waiting(t)
	s.Crash([][]int{nil, {0}})
	has(t, s, 0, 0, filled(100))
	has(t, s, 1, 0, filled(50))
	s = waiting(t)
	s.Crash([][]int{{0}, {1}})
	has(t, s, 0, 0, filled(1))
	has(t, s, 1, 0, filled(200))
	s.Crash([][]int{{0, 1, 2, 3, 4}, {0}}) // nothing waits any more
	has(t, s, 0, 0, filled(1))
	has(t, s, 0, 1, filled(101))
	has(t, s, 1, 0, filled(200))
}

func TestNumbersBeginAnewBehindAFlush(t *testing.T) { // P5.3
	s := made(t, 1, 2)
	wrote(t, s.Write(0, 0, filled(1)))
	wrote(t, s.Flush(0))
	wrote(t, s.Write(0, 0, filled(2)))
	wrote(t, s.Write(0, 1, filled(3)))
	f := s.Fork()
	s.Crash([][]int{{0}})
	has(t, s, 0, 0, filled(2))
	has(t, s, 0, 1, filled(0))
	f.Crash(nil)
	has(t, f, 0, 0, filled(1))
	wrote(t, f.Write(0, 1, filled(4)))
	f.Crash([][]int{{0}})
	has(t, f, 0, 1, filled(4))
}

func TestACrashOfADeadDisk(t *testing.T) { // P5.3: its writes don't wait any longer, either
	s := made(t, 1, 2)
	wrote(t, s.Write(0, 1, filled(1)))
	wrote(t, s.Kill(0))
	if s.Waits(0) != 1 {
		t.Errorf("%d wait", s.Waits(0))
	}
	s.Crash([][]int{{0}})
	if s.Waits(0) != 0 || !s.Dead(0) {
		t.Error("a dead disk is none any more, or something waits")
	}
	if got := s.disks[0].sure[1]; got != string(filled(1)) {
		t.Errorf("%x is not sure", got)
	}
}

func TestBehindACrashEachSectorHasOneOfItsWrites(t *testing.T) { // P5.3, P5.5: whichever are kept
	order := []int{0, 1, 0, 2, 1, 0}
	for kept := range 1 << len(order) {
		s := made(t, 1, 3)
		want := [3]byte{90, 91, 92}
		for n, x := range want {
			wrote(t, s.Write(0, n, filled(x)))
		}
		wrote(t, s.Flush(0))
		var list []int
		for number, n := range order {
			wrote(t, s.Write(0, n, filled(byte(number+1))))
			if kept>>number&1 == 1 {
				list = append(list, number)
				want[n] = byte(number + 1)
			}
		}
		s.Crash([][]int{list})
		for n, x := range want {
			has(t, s, 0, n, filled(x))
		}
	}
}

func TestWaitsAndCount(t *testing.T) { // P5.4
	s := made(t, 2, 3)
	for k := range 5 {
		wrote(t, s.Write(1, k%2, filled(1)))
		if s.Waits(1) != k+1 || s.Waits(0) != 0 || s.Count() != 2*k+1 {
			t.Errorf("behind %d writes %d and %d wait, %d were counted", k+1, s.Waits(0), s.Waits(1), s.Count())
		}
		has(t, s, 1, 1, filled(byte(min(k, 1))))
	}
	wrote(t, s.Flush(0))
	if s.Waits(1) != 5 || s.Count() != 11 {
		t.Errorf("%d wait, %d were counted", s.Waits(1), s.Count())
	}
	wrote(t, s.Flush(1))
	s.Stop(9)
	wrote(t, s.Kill(0))
	wrote(t, s.Corrupt(0, 0, 0, 1))
	s.Crash(nil)
	if s.Waits(1) != 0 || s.Count() != 12 {
		t.Errorf("%d wait, %d were counted", s.Waits(1), s.Count())
	}
	for _, d := range edges() {
		if s.Waits(d) != 0 {
			t.Errorf("Waits(%d) = %d", d, s.Waits(d))
		}
	}
}

// forked is a shelf with something of everything.
func forked(t *testing.T) *Shelf {
	s := made(t, 3, 3)
	wrote(t, s.Write(0, 0, filled(1)))
	wrote(t, s.Flush(0))
	for _, x := range []byte{2, 9, 3} { // three, so that a list of them has room for a fourth one
		wrote(t, s.Write(0, 1, filled(x)))
	}
	wrote(t, s.Kill(2))
	s.Stop(3)
	return s
}

func TestAForkIsTheSame(t *testing.T) { // P5.4
	f := forked(t).Fork()
	d, n := f.Size()
	if d != 3 || n != 3 || f.Count() != 5 || f.Waits(0) != 3 || f.Dead(0) || !f.Dead(2) || f.Off() {
		t.Errorf("%+v", f)
	}
	has(t, f, 0, 0, filled(1))
	has(t, f, 0, 1, filled(3))
	wrote(t, f.Write(1, 0, filled(5)))
	wrote(t, f.Write(1, 0, filled(6)))
	wrote(t, f.Flush(1))
	if !f.Off() || !f.Fork().Off() {
		t.Error("a fork's power goes as the first one's")
	}
	f.Crash([][]int{{0}})
	has(t, f, 0, 1, filled(2))
	has(t, f, 1, 0, filled(6))
}

func TestAForkIsAnother(t *testing.T) { // P5.4, R5: whichever of the two goes on
	for _, first := range []bool{false, true} {
		s := forked(t)
		f := s.Fork()
		if first {
			s, f = f, s
		}
		// Both append behind the same writes.
		wrote(t, s.Write(0, 2, filled(7)))
		wrote(t, f.Write(0, 1, filled(8)))
		has(t, s, 0, 1, filled(3))
		has(t, f, 0, 2, filled(0))
		wrote(t, s.Kill(1))
		wrote(t, s.Flush(0))
		wrote(t, s.Corrupt(0, 0, 0, 0xff))
		s.Stop(0)
		if f.Dead(1) || f.Off() || f.Waits(0) != 4 || f.Count() != 7 || s.Count() != 8 {
			t.Errorf("%d wait, %d and %d were counted", f.Waits(0), f.Count(), s.Count())
		}
		has(t, f, 0, 0, filled(1))
		s.Crash(nil)
		f.Crash([][]int{{3}})
		has(t, f, 0, 1, filled(8))
		has(t, f, 0, 2, filled(0))
		has(t, s, 0, 1, filled(3))
		has(t, s, 0, 2, filled(7))
	}
}

func TestTwoShelvesKnowNothingOfEachOther(t *testing.T) { // R5
	a, b := made(t, 1, 2), made(t, 1, 2)
	wrote(t, a.Write(0, 0, filled(1)))
	wrote(t, a.Flush(0))
	wrote(t, a.Kill(0))
	a.Stop(0)
	if b.Off() || b.Dead(0) || b.Count() != 0 {
		t.Error("a shelf has what was done to another one")
	}
	has(t, b, 0, 0, filled(0))
}

func TestWhatIsDoneToADiskChangesNoOther(t *testing.T) { // P5.6
	for d := range 3 {
		s := made(t, 3, 2)
		for k := range 3 {
			wrote(t, s.Write(k, 0, filled(byte(k+1))))
			wrote(t, s.Flush(k))
			wrote(t, s.Write(k, 1, filled(byte(k+11))))
		}
		wrote(t, s.Write(d, 0, filled(99)))
		wrote(t, s.Flush(d))
		wrote(t, s.Corrupt(d, 1, 3, 9))
		wrote(t, s.Kill(d))
		for k := range 3 {
			if k == d {
				continue
			}
			has(t, s, k, 0, filled(byte(k+1)))
			has(t, s, k, 1, filled(byte(k+11)))
			if s.Waits(k) != 1 || s.Dead(k) {
				t.Errorf("%d of the disk %d wait", s.Waits(k), k)
			}
			is(t, "Corrupt", s.Corrupt(k, 1, 0, 1), api.ErrState)
		}
	}
}

func TestWhatIsHandedInIsNotKept(t *testing.T) { // R3
	s := made(t, 1, 2)
	b := counting(1)
	wrote(t, s.Write(0, 1, b))
	if !bytes.Equal(b, counting(1)) {
		t.Error("what was handed in is another one now")
	}
	clear(b)
	has(t, s, 0, 1, counting(1))
	keep := [][]int{{5, 0, -3, 0}, nil, {7}}
	s.Crash(keep)
	if !slices.Equal(keep[0], []int{5, 0, -3, 0}) || keep[1] != nil || !slices.Equal(keep[2], []int{7}) {
		t.Errorf("%v", keep)
	}
	has(t, s, 0, 1, counting(1))
	// Behind a list's length nothing is read.
	wrote(t, s.Write(0, 1, counting(2)))
	s.Crash([][]int{{0}}[:0])
	has(t, s, 0, 1, counting(1))
	wrote(t, s.Write(0, 1, counting(2)))
	s.Crash([][]int{[]int{0}[:0]})
	has(t, s, 0, 1, counting(1))
}

func TestWhatIsHandedOutIsTheCallersOwn(t *testing.T) { // R3
	s := made(t, 1, 2)
	wrote(t, s.Write(0, 1, counting(1)))
	for range 2 { // while it waits, and when it is sure
		a, _ := s.Read(0, 1)
		b, _ := s.Read(0, 1)
		clear(a)
		if !bytes.Equal(b, counting(1)) {
			t.Error("two answers share their memory")
		}
		has(t, s, 0, 1, counting(1))
		wrote(t, s.Flush(0))
	}
	a, _ := s.Read(0, 0)
	copy(a, filled(9))
	has(t, s, 0, 0, filled(0))
}

func TestANilShelf(t *testing.T) { // P5.4, P1
	var s *Shelf
	for _, x := range edges() {
		b, e := s.Read(x, x)
		if b != nil || e != api.ErrClosed {
			t.Errorf("Read = %x, %d", b, e)
		}
		is(t, "Write", s.Write(x, x, filled(1)), api.ErrClosed)
		is(t, "Write of nothing", s.Write(x, x, nil), api.ErrClosed)
		is(t, "Flush", s.Flush(x), api.ErrClosed)
		is(t, "Kill", s.Kill(x), api.ErrClosed)
		is(t, "Corrupt", s.Corrupt(x, x, x, 1), api.ErrClosed)
		s.Stop(x)
		s.Crash([][]int{{x}})
		if s.Dead(x) || s.Off() || s.Waits(x) != 0 {
			t.Error("a nil shelf has something")
		}
	}
	s.Crash(nil)
	if d, n := s.Size(); d != 0 || n != 0 || s.Count() != 0 || s.Fork() != nil {
		t.Error("a nil shelf has something")
	}
}

func TestAShelfThatNobodyMade(t *testing.T) { // P1
	s := &Shelf{}
	for _, x := range edges() {
		_, e := s.Read(x, x)
		is(t, "Read", e, api.ErrArg)
		is(t, "Write", s.Write(x, x, filled(1)), api.ErrArg)
		is(t, "Flush", s.Flush(x), api.ErrArg)
		is(t, "Kill", s.Kill(x), api.ErrArg)
		is(t, "Corrupt", s.Corrupt(x, x, x, 1), api.ErrArg)
		s.Stop(x)
		s.Crash([][]int{{x}})
		s.Fork()
	}
}

// A plain shelf is one told once more, without a thought for time or room.
type plain struct {
	sure [][][]byte
	list [][]order // what waits
	dead []bool
	off  bool
	left int // below 0: never
	done int
}

type order struct {
	n int
	b []byte
}

func newPlain(disks, sectors int) *plain {
	p := &plain{sure: make([][][]byte, disks), list: make([][]order, disks), dead: make([]bool, disks), left: -1}
	for d := range disks {
		for range sectors {
			p.sure[d] = append(p.sure[d], make([]byte, 128))
		}
	}
	return p
}

func (p *plain) refusal(d int, right bool) api.Errno {
	if !right || d < 0 || d >= len(p.sure) {
		return api.ErrArg
	}
	if p.off {
		return api.ErrOff
	}
	if p.dead[d] {
		return api.ErrDead
	}
	p.done++
	return api.OK
}

func (p *plain) sector(n int) bool { return n >= 0 && n < len(p.sure[0]) }

func (p *plain) read(d, n int) ([]byte, api.Errno) {
	if e := p.refusal(d, p.sector(n)); e != api.OK {
		return nil, e
	}
	b := p.sure[d][n]
	for _, o := range p.list[d] {
		if o.n == n {
			b = o.b
		}
	}
	return b, api.OK
}

func (p *plain) spend() {
	if p.left--; p.left == 0 {
		p.off = true
	}
}

func (p *plain) write(d, n int, b []byte) api.Errno {
	e := p.refusal(d, p.sector(n) && len(b) == 128)
	if e == api.OK {
		p.list[d] = append(p.list[d], order{n, bytes.Clone(b)})
		p.spend()
	}
	return e
}

func (p *plain) flush(d int) api.Errno {
	e := p.refusal(d, true)
	if e == api.OK {
		p.settle(d, nil, true)
		p.spend()
	}
	return e
}

func (p *plain) settle(d int, keep []int, all bool) {
	for number, o := range p.list[d] {
		if all || slices.Contains(keep, number) {
			p.sure[d][o.n] = bytes.Clone(o.b)
		}
	}
	p.list[d] = nil
}

func (p *plain) corrupt(d, n, at int, with byte) api.Errno {
	if d < 0 || d >= len(p.sure) || !p.sector(n) || at < 0 || at > 127 {
		return api.ErrArg
	}
	for _, o := range p.list[d] {
		if o.n == n {
			return api.ErrState
		}
	}
	p.sure[d][n][at] ^= with
	return api.OK
}

func (p *plain) stop(n int) {
	if p.off {
		return
	}
	p.left = n
	p.off = n == 0
}

func (p *plain) crash(keep [][]int) {
	for d := range p.sure {
		if d < len(keep) {
			p.settle(d, keep[d], false)
		} else {
			p.settle(d, nil, false)
		}
	}
	p.off, p.left = false, -1
}

func (p *plain) fork() *plain {
	f := *p
	f.sure, f.list, f.dead = make([][][]byte, len(p.sure)), make([][]order, len(p.list)), slices.Clone(p.dead)
	for d := range p.sure {
		for _, b := range p.sure[d] {
			f.sure[d] = append(f.sure[d], bytes.Clone(b))
		}
		f.list[d] = slices.Clone(p.list[d])
	}
	return &f
}

// alike fails if a shelf has something that a plain one has not.
func alike(t *testing.T, s *Shelf, p *plain) {
	t.Helper()
	if s.Off() != p.off || s.Count() != p.done {
		t.Fatalf("Off = %v, Count = %d, not %v, %d", s.Off(), s.Count(), p.off, p.done)
	}
	for d := range p.sure {
		if s.Dead(d) != p.dead[d] || s.Waits(d) != len(p.list[d]) {
			t.Fatalf("disk %d: Dead = %v, Waits = %d, not %v, %d", d, s.Dead(d), s.Waits(d), p.dead[d], len(p.list[d]))
		}
		for n := range p.sure[d] {
			b, e := s.Read(d, n)
			want, we := p.read(d, n)
			if e != we || !bytes.Equal(b, want) {
				t.Fatalf("Read(%d, %d) = %x, %d, not %x, %d", d, n, b, e, want, we)
			}
		}
	}
}

func someNumbers(r *rand.Rand) []int {
	l := make([]int, r.Intn(6))
	for i := range l {
		l[i] = r.Intn(8) - 1
	}
	return l
}

// do does a thing, by chance, to a shelf and to a plain one.
func do(t *testing.T, r *rand.Rand, s *Shelf, p *plain) {
	t.Helper()
	d, n, at, x := r.Intn(5)-1, r.Intn(5)-1, r.Intn(150)-10, byte(r.Intn(256))
	switch k := r.Intn(100); {
	case k < 50:
		b := counting(x)
		if r.Intn(10) == 0 {
			b = b[:r.Intn(129)]
		}
		is(t, "Write", s.Write(d, n, b), p.write(d, n, b))
	case k < 70:
		is(t, "Flush", s.Flush(d), p.flush(d))
	case k < 82:
		is(t, "Corrupt", s.Corrupt(d, n, at, x), p.corrupt(d, n, at, x))
	case k < 88:
		s.Stop(n * 3)
		p.stop(n * 3)
	case k < 99:
		keep := make([][]int, r.Intn(6))
		for i := range keep {
			keep[i] = someNumbers(r)
		}
		s.Crash(keep)
		p.crash(keep)
	default:
		if d >= 0 && d < 3 && r.Intn(4) == 0 {
			is(t, "Kill", s.Kill(d), api.OK)
			p.dead[d] = true
		}
	}
}

func TestAsAPlainShelf(t *testing.T) { // P5.1 to P5.6: whatever is done, in whichever order
	for seed := range 60 {
		r := rand.New(rand.NewSource(int64(seed)))
		s, p := made(t, 3, 3), newPlain(3, 3)
		var olds []*Shelf
		var oldPlains []*plain
		for range 200 {
			do(t, r, s, p)
			alike(t, s, p)
			if r.Intn(40) == 0 {
				olds, oldPlains = append(olds, s), append(oldPlains, p)
				s, p = s.Fork(), p.fork()
			}
		}
		for i := range olds { // a shelf goes on as it was when it was forked
			alike(t, olds[i], oldPlains[i])
			for range 20 {
				do(t, r, olds[i], oldPlains[i])
				alike(t, olds[i], oldPlains[i])
			}
		}
		alike(t, s, p)
	}
}
