package journal

import (
	"bytes"
	"slices"
	"testing"

	"ashlar/api"
	"ashlar/cache"
	"ashlar/lay"
	"ashlar/raid"
	"ashlar/shelf"
)

// text is a block of which each byte is another one; it begins with a J, if x is from 18944 to 19199.
func text(x int) []byte {
	b := make([]byte, api.Sector)
	for i := range b {
		b[i] = byte(x + i)
	}
	b[0], b[1] = byte(x>>8), byte(x>>16)
	return b
}

// jtext is one that begins with a J.
func jtext(x int) []byte {
	b := text(x)
	b[0] = 'J'
	return b
}

// done fails if a call was refused.
func done(t *testing.T, e api.Errno) {
	t.Helper()
	if e != api.OK {
		t.Fatalf("error %d", e)
	}
}

// is fails if a call answers another error than the one that is asked for.
func is(t *testing.T, what string, got, want api.Errno) {
	t.Helper()
	if got != want {
		t.Errorf("%s: %d, not %d", what, got, want)
	}
}

// A site is where a journal lies: an array's numbers, a cache's and its own.
type site struct {
	members, stripes, logs int
	most                   int
	first, length          int
}

var (
	small = site{3, 20, 1, 4, 8, 28}   // 40 blocks, of which 0 to 7 and 36 to 39 are its own
	wide  = site{4, 20, 2, 64, 10, 28} // 60 blocks, of which 0 to 9 and 38 to 59 are its own
	last  = site{3, 16, 1, 3, 4, 28}   // 32 blocks: the ring ends with the last one
	front = site{3, 16, 1, 3, 0, 28}   // 32 blocks: the head is the first one
	long  = site{5, 20, 1, 5, 3, 70}   // 80 blocks
	sites = []site{small, wide, last, front, long}
)

func (x site) blocks() int { return x.stripes * (x.members - 1) }

func (x site) own(n int) bool {
	return n >= 0 && n < x.first || n >= x.first+x.length && n < x.blocks()
}

func (x site) owns() []int {
	var l []int
	for n := range x.blocks() {
		if x.own(n) {
			l = append(l, n)
		}
	}
	return l
}

// old is what a block has at first.
func old(block int) []byte { return text(1000 + block) }

var fulls = map[site]*shelf.Shelf{}

// full is an array of which each block has a text of its own.
func (x site) full(t *testing.T) (*shelf.Shelf, *raid.Volume) {
	t.Helper()
	if fulls[x] == nil {
		need, e := lay.Need(x.stripes, x.logs)
		done(t, e)
		s, e := shelf.New(x.members, need+(need+15)/16)
		done(t, e)
		v, e := raid.Create(s, x.members, x.stripes, x.logs)
		done(t, e)
		for n := range x.blocks() {
			done(t, v.Write(n, old(n)))
		}
		done(t, v.Flush())
		fulls[x] = s
	}
	return volumeOf(t, fulls[x])
}

// volumeOf is a volume over disks like these.
func volumeOf(t *testing.T, s *shelf.Shelf) (*shelf.Shelf, *raid.Volume) {
	t.Helper()
	s = s.Fork()
	v, e := raid.Open(s)
	done(t, e)
	return s, v
}

func cacheOf(t *testing.T, v *raid.Volume, most int) *cache.Cache {
	t.Helper()
	c, e := cache.New(v, most)
	done(t, e)
	return c
}

// ready is a full array with an empty journal.
func (x site) ready(t *testing.T) (*shelf.Shelf, *cache.Cache) {
	t.Helper()
	s, v := x.full(t)
	c := cacheOf(t, v, x.most)
	done(t, Format(c, x.first, x.length))
	return s, c
}

// open fails if a journal has not so many transactions.
func (x site) open(t *testing.T, c *cache.Cache, want int) *Journal {
	t.Helper()
	j, n, e := Open(c, x.first, x.length)
	if j == nil || n != want || e != api.OK {
		t.Fatalf("Open = %v, %d, %d, not %d", j != nil, n, e, want)
	}
	return j
}

// again is the journal behind a crash.
func (x site) again(t *testing.T, s *shelf.Shelf, want int) *Journal {
	t.Helper()
	s.Crash(nil)
	v, e := raid.Open(s)
	done(t, e)
	return x.open(t, cacheOf(t, v, x.most), want)
}

// A deed is something that is done to a journal, or to what lies below it, and is not refused.
type deed func(t *testing.T, s *shelf.Shelf, j *Journal)

// behind is a new journal behind some deeds.
func (x site) behind(t *testing.T, deeds ...deed) (*shelf.Shelf, *Journal) {
	t.Helper()
	s, c := x.ready(t)
	j := x.open(t, c, 0)
	for _, d := range deeds {
		d(t, s, j)
	}
	return s, j
}

// fresh is what a test writes to a block.
func fresh(block int) []byte { return text(20000 + block) }

func writes(blocks ...int) deed {
	return func(t *testing.T, _ *shelf.Shelf, j *Journal) {
		t.Helper()
		for _, n := range blocks {
			done(t, j.Write(n, fresh(n)))
		}
	}
}

func write(block int, b []byte) deed {
	return func(t *testing.T, _ *shelf.Shelf, j *Journal) {
		t.Helper()
		done(t, j.Write(block, b))
	}
}

func commits(t *testing.T, _ *shelf.Shelf, j *Journal) {
	t.Helper()
	done(t, j.Commit())
}

func checkpoints(t *testing.T, _ *shelf.Shelf, j *Journal) {
	t.Helper()
	done(t, j.Checkpoint())
}

func aborts(_ *testing.T, _ *shelf.Shelf, j *Journal) { j.Abort() }

func dies(disks ...int) deed {
	return func(t *testing.T, s *shelf.Shelf, _ *Journal) {
		for _, d := range disks {
			done(t, s.Kill(d))
		}
	}
}

func stops(n int) deed {
	return func(_ *testing.T, s *shelf.Shelf, _ *Journal) { s.Stop(n) }
}

// stands fails if a journal's state is another one.
func stands(t *testing.T, what string, j *Journal, seq, used int, running ...int) {
	t.Helper()
	if j.Seq() != seq || j.Used() != used || !slices.Equal(j.Running(), running) {
		t.Errorf("%s: Seq = %d, Used = %d, Running = %v, not %d, %d, %v",
			what, j.Seq(), j.Used(), j.Running(), seq, used, running)
	}
}

// tells fails if a Read does not tell these bytes.
func tells(t *testing.T, what string, j *Journal, block int, want []byte) {
	t.Helper()
	if b, e := j.Read(block); e != api.OK || !bytes.Equal(b, want) {
		t.Errorf("%s: Read(%d) = %x.., %d, not %x..", what, block, b[:min(4, len(b))], e, want[:4])
	}
}

// tellsAll fails if another block than these is read as fresh.
func (x site) tellsAll(t *testing.T, what string, j *Journal, written ...int) {
	t.Helper()
	for _, n := range x.owns() {
		want := old(n)
		if slices.Contains(written, n) {
			want = fresh(n)
		}
		tells(t, what, j, n, want)
	}
}

// volumeHas fails if the volume's block has other bytes.
func volumeHas(t *testing.T, what string, v *raid.Volume, block int, want []byte) {
	t.Helper()
	if b, e := v.Read(block); e != api.OK || !bytes.Equal(b, want) {
		t.Errorf("%s: the volume's block %d has %x.., %d, not %x..", what, block, b[:min(16, len(b))], e, want[:16])
	}
}

// asItStands is a transaction by the chapter's words.
func asItStands(seq int, l ...api.Write) [][]byte {
	var turned uint32
	var targets []int
	var blocks [][]byte
	for i, w := range l {
		b := slices.Clone(w.Data)
		if b[0] == 74 {
			b[0], turned = 0, turned|1<<i
		}
		targets, blocks = append(targets, w.Block), append(blocks, b)
	}
	all := append([][]byte{sealed("JDSC", uint64(seq), asNumbers(turned, targets...)...)}, blocks...)
	return append(all, sealed("JCMT", uint64(seq), sumOf(all...)))
}

// freshOnes are the writes of a transaction.
func freshOnes(blocks ...int) []api.Write {
	var l []api.Write
	for _, n := range blocks {
		l = append(l, api.Write{Block: n, Data: fresh(n)})
	}
	return l
}

// lay lays blocks into the ring, from one on.
func (x site) lay(t *testing.T, v *raid.Volume, at int, blocks ...[]byte) {
	t.Helper()
	for i, b := range blocks {
		done(t, v.Write(x.first+1+(at+i)%(x.length-1), b))
	}
}

// lies fails if these blocks do not lie in the ring, from one on.
func (x site) lies(t *testing.T, what string, v *raid.Volume, at int, blocks ...[]byte) {
	t.Helper()
	for i, b := range blocks {
		volumeHas(t, what, v, x.first+1+(at+i)%(x.length-1), b)
	}
}

func TestExample(t *testing.T) { // the chapter's example
	s, _ := small.behind(t, write(3, text(5)), commits)
	tells(t, "the example", small.again(t, s, 1), 3, text(5))
}

func TestWhereAJournalMayLie(t *testing.T) { // P11.2, P11.4, R1
	s, v := small.full(t)
	c := cacheOf(t, v, 4)
	const far = 1<<63 - 1
	for _, x := range []struct {
		c             *cache.Cache
		first, length int
		want          api.Errno
	}{
		{c, -1, 28, api.ErrArg}, {c, -far - 1, 28, api.ErrArg}, {c, 0, 27, api.ErrArg}, {c, 0, 28, api.OK},
		{c, 0, 29, api.OK}, {c, 0, 40, api.OK}, {c, 0, 41, api.ErrArg}, {c, 1, 40, api.ErrArg}, {c, 12, 28, api.OK},
		{c, 12, 29, api.ErrArg}, {c, 11, 29, api.OK}, {c, 13, 28, api.ErrArg}, {c, 13, 27, api.ErrArg},
		{c, 40, 28, api.ErrArg}, {c, far, 28, api.ErrArg}, {c, far, far, api.ErrArg}, {c, 0, far, api.ErrArg},
		{c, 1, far, api.ErrArg}, {c, 0, 0, api.ErrArg}, {c, 0, -1, api.ErrArg}, {c, 0, -far - 1, api.ErrArg},
		{c, 0, 1, api.ErrArg}, {c, far, -far, api.ErrArg}, {nil, 0, 28, api.ErrArg}, {nil, -1, 0, api.ErrArg},
		{&cache.Cache{}, 0, 28, api.ErrArg}, {cacheOf(t, &raid.Volume{}, 4), 0, 28, api.ErrArg},
	} {
		if x.want != api.OK {
			count := s.Count()
			if j, n, e := Open(x.c, x.first, x.length); j != nil || n != 0 || e != x.want {
				t.Errorf("Open(%d, %d) = %v, %d, %d", x.first, x.length, j != nil, n, e)
			}
			is(t, "Format", Format(x.c, x.first, x.length), x.want)
			if s.Count() != count {
				t.Errorf("(%d, %d) is refused, and the volume was called", x.first, x.length)
			}
			continue
		}
		is(t, "Format", Format(x.c, x.first, x.length), api.OK)
		j, n, e := Open(x.c, x.first, x.length)
		if j == nil || n != 0 || e != api.OK {
			t.Errorf("Open(%d, %d) = %v, %d, %d", x.first, x.length, j != nil, n, e)
		}
	}
	if n := len(c.Blocks()); n != 0 {
		t.Errorf("the cache keeps %d blocks", n)
	}
}

func TestWhatFormatWrites(t *testing.T) { // P11.2: and nothing else; all of it is sure
	for _, x := range sites {
		s, c := x.ready(t)
		s.Crash(nil)
		_, v := volumeOf(t, s)
		for n := range x.blocks() {
			want := old(n)
			if !x.own(n) {
				want = make([]byte, 128)
			}
			if n == x.first {
				want = sealed("JHDR", 1, 0)
			}
			volumeHas(t, "behind a Format", v, n, want)
		}
		if len(c.Blocks()) != 0 {
			t.Error("the cache keeps something")
		}
	}
}

func TestHowFormatWrites(t *testing.T) { // P11.2: the volume does the same as if it were written so
	for _, x := range sites {
		s, c := x.ready(t)
		other, v := x.full(t)
		for n := range x.length - 1 {
			done(t, v.Write(x.first+1+n, make([]byte, 128)))
		}
		done(t, v.Flush())
		done(t, v.Write(x.first, sealed("JHDR", 1, 0)))
		done(t, v.Flush())
		if s.Count() != other.Count() {
			t.Errorf("%d reads, writes and flushes, not %d", s.Count(), other.Count())
		}
		volumeHas(t, "the head", c.Volume(), x.first, sealed("JHDR", 1, 0))
	}
}

func TestWhatOpenWrites(t *testing.T) { // P11.2: the head, whose seq is one more
	for _, x := range sites {
		s, c := x.ready(t)
		for n := range 3 {
			j := x.open(t, c, 0)
			stands(t, "a new one", j, 2+n, 0)
			if len(j.Saved()) != 0 {
				t.Error("it has writes")
			}
			f := s.Fork()
			f.Crash(nil)
			_, v := volumeOf(t, f)
			volumeHas(t, "behind an Open", v, x.first, sealed("JHDR", uint64(2+n), 0))
			x.lies(t, "behind an Open", v, 0, slices.Repeat([][]byte{make([]byte, 128)}, x.length-1)...)
			x.tellsAll(t, "behind an Open", j)
		}
	}
}

func TestFormatForgetsWhatWas(t *testing.T) { // P11.2
	s, j := small.behind(t, writes(3), commits, writes(4), commits)
	done(t, Format(j.cache, small.first, small.length))
	j = small.again(t, s, 0)
	stands(t, "formatted anew", j, 2, 0)
}

func TestWhatIsRefusedBelow(t *testing.T) { // P11.2, R2: of the volume
	s, c := small.ready(t)
	s.Stop(0)
	is(t, "the power goes", s.Flush(0), api.ErrOff)
	refused(t, c, api.ErrOff)
	s.Crash(nil)
	done(t, s.Kill(0))
	done(t, s.Kill(1))
	_, v := volumeOf(t, s)
	refused(t, cacheOf(t, v, 4), api.ErrIo)
}

// refused fails if Format and Open do not tell this.
func refused(t *testing.T, c *cache.Cache, want api.Errno) {
	t.Helper()
	is(t, "Format", Format(c, small.first, small.length), want)
	if j, n, e := Open(c, small.first, small.length); j != nil || n != 0 || e != want {
		t.Errorf("Open = %v, %d, %d, not %d", j != nil, n, e, want)
	}
}

func TestNoHead(t *testing.T) { // P11.2
	for _, x := range []struct {
		head []byte
		want api.Errno
	}{
		{make([]byte, 128), api.ErrCode}, {old(8), api.ErrCode}, {sealed("JMKT", 1, 0), api.ErrCode},
		{sealed("JDSC", 1, 1, 0, 0), api.ErrCode}, {sealed("JHDR", 0, 0), api.ErrCode},
		{sealed("JHDR", 1, 27), api.ErrCode}, {sealed("JHDR", 1, 65535), api.ErrCode},
		{sealed("JHDR", 1, 26), api.OK}, {sealed("JHDR", 1, 0), api.OK}, {sealed("JHDR", most62-1, 0), api.OK},
		{sealed("JHDR", most62, 0), api.ErrArg}, // there is no seq any more for the head
	} {
		_, c := small.ready(t)
		done(t, c.Volume().Write(small.first, x.head))
		j, n, e := Open(c, small.first, small.length)
		if (j != nil) != (x.want == api.OK) || n != 0 || e != x.want {
			t.Errorf("Open at %x = %v, %d, %d, not %d", x.head[:20], j != nil, n, e, x.want)
		}
		if x.want == api.ErrCode {
			volumeHas(t, "refused", c.Volume(), small.first, x.head)
		}
	}
}

func TestTheLastSeqs(t *testing.T) { // P11.4, P1
	s, c := small.ready(t)
	done(t, c.Volume().Write(small.first, sealed("JHDR", most62-1, 0)))
	j := small.open(t, c, 0)
	stands(t, "the last one", j, most62, 0)
	writes(3)(t, s, j)
	done(t, j.Commit())
	stands(t, "there is none any more", j, most62+1, 3)
	writes(4)(t, s, j)
	is(t, "Commit", j.Commit(), api.ErrArg)
	stands(t, "refused", j, most62+1, 3, 4)
	is(t, "Checkpoint", j.Checkpoint(), api.ErrArg)
	stands(t, "refused", j, most62+1, 3, 4)
	small.tellsAll(t, "refused", j, 3, 4)
}

func TestReadAndWriteOwnBlocks(t *testing.T) { // P11.3, R1
	for _, x := range sites {
		_, j := x.behind(t)
		asked := []int{-1 << 63, -1, 0, x.first - 1, x.first, x.first + 1, x.first + x.length - 1, x.first + x.length,
			x.blocks() - 1, x.blocks(), x.blocks() + 1, 1 << 40, 1<<63 - 1}
		for _, n := range asked {
			want := api.ErrArg
			if x.own(n) {
				want = api.OK
			}
			b, e := j.Read(n)
			is(t, "Read", e, want)
			if (b != nil) != (want == api.OK) || want == api.OK && !bytes.Equal(b, old(n)) {
				t.Errorf("Read(%d) = %x", n, b)
			}
			is(t, "Write", j.Write(n, fresh(1)), want)
			is(t, "Undo", j.Undo([]api.Write{{Block: n, Data: fresh(1)}}), want)
			j.Abort()
		}
		for _, b := range [][]byte{nil, {}, fresh(1)[:1], fresh(1)[:127], append(fresh(1), 0), make([]byte, 256)} {
			is(t, "Write of another length", j.Write(x.owns()[0], b), api.ErrArg)
			is(t, "Undo of another length", j.Undo([]api.Write{{Block: x.owns()[0], Data: b}}), api.ErrArg)
		}
		stands(t, "refused", j, 2, 0)
	}
}

func TestTheRunningTransactionIsRead(t *testing.T) { // P11.3, P11.6
	_, j := small.behind(t, writes(5, 3), write(3, text(1)), write(36, jtext(2)), write(3, text(3)))
	stands(t, "written", j, 2, 0, 3, 5, 36)
	tells(t, "written thrice", j, 3, text(3))
	tells(t, "written", j, 5, fresh(5))
	tells(t, "written", j, 36, jtext(2))
	tells(t, "not written", j, 4, old(4))
	if dirty := j.cache.Dirty(); len(dirty) > 0 {
		t.Errorf("the cache has %v", dirty)
	}
	saved := j.Saved()
	for i, want := range []api.Write{{Block: 3, Data: text(3)}, {Block: 5, Data: fresh(5)}, {Block: 36, Data: jtext(2)}} {
		if len(saved) != 3 || saved[i].Block != want.Block || !bytes.Equal(saved[i].Data, want.Data) {
			t.Fatalf("Saved = %v", saved)
		}
	}
	j.Abort()
	stands(t, "aborted", j, 2, 0)
	if len(j.Saved()) > 0 {
		t.Error("aborted, and saved")
	}
	small.tellsAll(t, "aborted", j)
	j.Abort()
	stands(t, "aborted twice", j, 2, 0)
}

func TestTheTwentyFifth(t *testing.T) { // P11.3
	own := wide.owns()
	_, j := wide.behind(t, writes(own[:24]...))
	is(t, "the 25th", j.Write(own[24], fresh(own[24])), api.ErrFull)
	is(t, "the 25th, of 127 bytes", j.Write(own[24], fresh(own[24])[:127]), api.ErrArg)
	is(t, "a block of the ring", j.Write(wide.first+1, fresh(1)), api.ErrArg)
	is(t, "one of the 24 again", j.Write(own[7], text(9)), api.OK)
	stands(t, "24", j, 2, 0, own[:24]...)
	tells(t, "one of the 24", j, own[7], text(9))
	tells(t, "the 25th", j, own[24], old(own[24]))
	done(t, j.Commit())
	stands(t, "24", j, 3, 26)
	is(t, "the next one's", j.Write(own[24], fresh(1)), api.OK)
}

func TestUndo(t *testing.T) { // P11.3
	own := wide.owns()
	double := append(freshOnes(own[:23]...), api.Write{Block: own[4], Data: text(1)})
	for _, x := range []struct {
		what string
		l    []api.Write
		want api.Errno
		is   []int
	}{
		{"nothing", nil, api.OK, nil},
		{"an empty list", []api.Write{}, api.OK, nil},
		{"one", freshOnes(own[5]), api.OK, own[5:6]},
		{"24", freshOnes(own[:24]...), api.OK, own[:24]},
		{"25", freshOnes(own[:25]...), api.ErrArg, nil},
		{"25 of 24 blocks", append(freshOnes(own[:24]...), freshOnes(own[3])...), api.ErrArg, nil},
		{"25 of one block", freshOnes(slices.Repeat(own[:1], 25)...), api.ErrArg, nil},
		{"24 of one block", freshOnes(slices.Repeat(own[:1], 24)...), api.OK, own[:1]},
		{"two of a block", double, api.OK, own[:23]},
		{"not by rising blocks", freshOnes(own[9], own[2], own[5]), api.OK, []int{own[2], own[5], own[9]}},
		{"one that may not be", freshOnes(own[0], wide.first, own[1]), api.ErrArg, nil},
		{"a last one that may not be", freshOnes(own[0], own[1], wide.blocks()), api.ErrArg, nil},
		{"one without bytes", append(freshOnes(own[0]), api.Write{Block: own[1]}), api.ErrArg, nil},
	} {
		t.Run(x.what, func(t *testing.T) {
			for _, before := range [][]int{nil, own[10:12], own[1:25]} {
				_, j := wide.behind(t, writes(before...))
				is(t, "Undo", j.Undo(x.l), x.want)
				if x.want != api.OK {
					stands(t, "refused", j, 2, 0, before...)
					wide.tellsAll(t, "refused", j, before...)
					continue
				}
				stands(t, "undone", j, 2, 0, x.is...)
				if x.what == "two of a block" {
					tells(t, "the last one counts", j, own[4], text(1))
					done(t, j.Write(own[4], fresh(own[4])))
				}
				wide.tellsAll(t, "undone", j, x.is...)
			}
		})
	}
}

func TestUndoOfWhatWasSaved(t *testing.T) { // P11.3
	_, j := small.behind(t, writes(3, 5))
	saved := j.Saved()
	done(t, j.Write(3, text(1)))
	done(t, j.Write(7, text(2)))
	done(t, j.Undo(saved))
	stands(t, "undone", j, 2, 0, 3, 5)
	small.tellsAll(t, "undone", j, 3, 5)
	done(t, j.Commit())
	small.tellsAll(t, "committed", j, 3, 5)
}

func TestBytesAreTheCallers(t *testing.T) { // R3, R4
	_, j := small.behind(t)
	room := make([]byte, 300)
	b := room[:128:300]
	copy(b, fresh(3))
	done(t, j.Write(3, b))
	clear(b)
	tells(t, "behind a Write", j, 3, fresh(3))
	for range 2 {
		b, _ = j.Read(3)
		clear(b)
		b, _ = j.Read(4)
		clear(b)
		saved := j.Saved()
		clear(saved[0].Data)
		saved[0].Block = 9
		clear(j.Running())
	}
	stands(t, "behind Reads", j, 2, 0, 3)
	small.tellsAll(t, "behind Reads", j, 3)
	l := freshOnes(3, 5)
	done(t, j.Undo(l))
	if !bytes.Equal(l[1].Data, fresh(5)) || l[1].Block != 5 {
		t.Error("an Undo changed what it was given")
	}
	clear(l[0].Data)
	clear(l)
	small.tellsAll(t, "behind an Undo", j, 3, 5)
	done(t, j.Write(5, jtext(5)))
	saved := j.Saved()
	done(t, j.Commit())
	if !bytes.Equal(saved[1].Data, jtext(5)) {
		t.Error("a Commit changed what was handed out")
	}
	clear(saved[0].Data)
	tells(t, "behind a Commit", j, 3, fresh(3))
	tells(t, "behind a Commit", j, 5, jtext(5))
}

// none fails if a journal answers as if there were one.
func none(t *testing.T, what string, j *Journal) {
	t.Helper()
	for _, block := range []int{-1, 0, 3, 1 << 40} {
		b, e := j.Read(block)
		if b != nil {
			t.Errorf("%s: Read = %v", what, b)
		}
		is(t, what+": Read", e, api.ErrClosed)
		is(t, what+": Write", j.Write(block, text(1)), api.ErrClosed)
		is(t, what+": Write of nil", j.Write(block, nil), api.ErrClosed)
		is(t, what+": Undo", j.Undo(freshOnes(block)), api.ErrClosed)
	}
	is(t, what+": Undo of nothing", j.Undo(nil), api.ErrClosed)
	is(t, what+": Undo of too many", j.Undo(make([]api.Write, 25)), api.ErrClosed)
	is(t, what+": Commit", j.Commit(), api.ErrClosed)
	is(t, what+": Checkpoint", j.Checkpoint(), api.ErrClosed)
	j.Abort()
	stands(t, what, j, 0, 0)
	if j.Saved() != nil {
		t.Errorf("%s: Saved = %v", what, j.Saved())
	}
}

func TestNoJournal(t *testing.T) { // P11.4, P1
	none(t, "nil", nil)
	none(t, "a Journal of nothing", &Journal{})
}

func TestTwoJournalsOfACache(t *testing.T) { // R5: each has what it has
	x, y := long, long
	x.length, y.first, y.length = 30, 40, 30
	s, v := long.full(t)
	c := cacheOf(t, v, 5)
	done(t, Format(c, x.first, x.length))
	done(t, Format(c, y.first, y.length))
	a, b := x.open(t, c, 0), y.open(t, c, 0)
	writes(0, 1)(t, s, a)
	writes(34)(t, s, b)
	done(t, b.Commit())
	writes(75)(t, s, b)
	stands(t, "the one", a, 2, 0, 0, 1)
	stands(t, "the other one", b, 3, 3, 75)
	done(t, a.Commit())
	s.Crash(nil)
	v, e := raid.Open(s)
	done(t, e)
	c = cacheOf(t, v, 5)
	a, b = x.open(t, c, 1), y.open(t, c, 1)
	for _, n := range []int{0, 1, 34} {
		tells(t, "the one", a, n, fresh(n))
	}
	tells(t, "the other one", b, 75, old(75))
}
