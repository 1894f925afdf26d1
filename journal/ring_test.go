package journal

import (
	"bytes"
	"slices"
	"testing"

	"ashlar/api"
	"ashlar/lay"
	"ashlar/raid"
	"ashlar/shelf"
	"ashlar/sums"
)

func TestWhatACommitWrites(t *testing.T) { // P11.4: the ring, the cache, the state; nothing stands at its place yet
	own := wide.owns()
	js := func(l []api.Write, which ...int) []api.Write {
		for _, i := range which {
			l[i].Data = jtext(i)
		}
		return l
	}
	for _, x := range []struct {
		what string
		l    []api.Write
	}{
		{"one block", freshOnes(5)},
		{"a block that begins with a J", js(freshOnes(5), 0)},
		{"a block of noughts", []api.Write{{Block: 5, Data: make([]byte, 128)}}},
		{"one that begins with a K", []api.Write{{Block: 5, Data: text('K' << 8)}}},
		{"one with a J behind", []api.Write{{Block: 5, Data: bytes.Replace(make([]byte, 128), []byte{0, 0}, []byte{0, 'J'}, 1)}}},
		{"two", freshOnes(0, 59)},
		{"the second one of them with a J", js(freshOnes(0, 59), 1)},
		{"23", freshOnes(own[1:24]...)},
		{"24", freshOnes(own[:24]...)},
		{"24, all with a J", js(freshOnes(own[:24]...), 0, 1, 2, 3, 4, 5, 6, 7, 8, 9, 10, 11, 12, 13, 14, 15, 16, 17, 18, 19, 20, 21, 22, 23)},
		{"24, the last one with a J", js(freshOnes(own[:24]...), 23)},
		{"one that looks like a desc", []api.Write{{Block: 5, Data: sealed("JDSC", 2, 1, 0, 7)}}},
	} {
		t.Run(x.what, func(t *testing.T) {
			s, j := wide.behind(t)
			for _, w := range slices.Backward(x.l) {
				done(t, j.Write(w.Block, w.Data))
			}
			done(t, j.Commit())
			stands(t, "committed", j, 3, len(x.l)+2)
			f := s.Fork()
			f.Crash(nil)
			_, v := volumeOf(t, f)
			wide.lies(t, "the ring, surely", v, 0, asItStands(2, x.l...)...)
			volumeHas(t, "the head", v, wide.first, sealed("JHDR", 2, 0))
			var blocks []int
			for _, w := range x.l {
				blocks = append(blocks, w.Block)
				volumeHas(t, "not yet", j.cache.Volume(), w.Block, old(w.Block))
				tells(t, "committed", j, w.Block, w.Data)
			}
			if got := j.cache.Dirty(); !slices.Equal(got, blocks) {
				t.Errorf("dirty are %v", got)
			}
			for n := len(x.l) + 2; n < wide.length-1; n++ {
				wide.lies(t, "beyond it", v, n, make([]byte, 128))
			}
			j = wide.again(t, s, 1)
			stands(t, "behind a crash", j, 4, 0)
			for _, w := range x.l {
				tells(t, "behind a crash", j, w.Block, w.Data)
				volumeHas(t, "at its place", j.cache.Volume(), w.Block, w.Data)
			}
		})
	}
}

func TestACommitOfNothing(t *testing.T) { // P11.4: whatever the ring has, and without power
	s, j := small.behind(t)
	count := s.Count()
	done(t, j.Commit())
	stands(t, "nothing", j, 2, 0)
	writes(3)(t, s, j)
	j.Abort()
	done(t, j.Commit())
	if s.Count() != count {
		t.Error("the volume was called")
	}
	writes(0, 1, 2, 3, 4, 5, 6, 7, 36, 37, 38, 39)(t, s, j)
	done(t, j.Commit())
	writes(0, 1, 2, 3, 4, 5, 6, 7, 36, 37, 38)(t, s, j)
	done(t, j.Commit())
	stands(t, "all of the ring is needed", j, 4, 27)
	done(t, j.Commit())
	stands(t, "and nothing more", j, 4, 27)
	s.Stop(0)
	is(t, "the power goes", s.Flush(0), api.ErrOff)
	done(t, j.Commit())
	writes(3)(t, s, j)
	is(t, "something", j.Commit(), api.ErrOff)
	stands(t, "refused", j, 4, 27, 3)
}

func TestBlocksArePutRising(t *testing.T) { // P11.4
	_, j := small.behind(t, writes(39, 2, 5), commits)
	if got := j.cache.Blocks(); !slices.Equal(got, []int{2, 5, 39}) {
		t.Errorf("the cache has %v", got)
	}
}

func TestUsedAndSeqRoundTheRing(t *testing.T) { // P11.4: where each transaction stands, and when a Checkpoint comes first
	for _, x := range []struct {
		ring  int
		sizes []int
		used  []int // behind each
	}{
		{27, []int{24, 24, 24}, []int{26, 26, 26}},
		{27, []int{24, 1, 23, 1}, []int{26, 3, 25, 3}},
		{27, []int{1, 1, 1, 1, 1, 1, 1, 1, 1, 1, 1}, []int{3, 6, 9, 12, 15, 18, 21, 24, 27, 3, 6}},
		{27, []int{12, 11, 1}, []int{14, 27, 3}},
		{27, []int{12, 12, 11}, []int{14, 14, 27}},
		{27, []int{23, 1, 22, 1}, []int{25, 3, 27, 3}},
		{28, []int{24, 1, 23, 2, 20}, []int{26, 3, 28, 4, 26}},
		{28, []int{1, 23, 24}, []int{3, 28, 26}},
		{69, []int{24, 24, 15, 1}, []int{26, 52, 69, 3}},
		{69, []int{24, 24, 16}, []int{26, 52, 18}},
		{52, []int{24, 24, 24}, []int{26, 52, 26}},
		{51, []int{24, 24}, []int{26, 26}},
	} {
		y := site{5, 30, 1, 60, 3, x.ring + 1}
		own := y.owns()
		_, j := y.behind(t)
		head, at, before := sealed("JHDR", 2, 0), 0, 0
		for i, n := range x.sizes {
			writes(own[i:i+n]...)(t, nil, j)
			stands(t, "ahead of a Commit", j, 2+i, before, own[i:i+n]...)
			done(t, j.Commit())
			stands(t, "behind a Commit", j, 3+i, x.used[i])
			if x.used[i] != before+n+2 { // a Checkpoint came first
				head = sealed("JHDR", uint64(2+i), uint32(at))
			}
			v := j.cache.Volume()
			volumeHas(t, "the head", v, y.first, head)
			y.lies(t, "the ring", v, at, asItStands(2+i, freshOnes(own[i:i+n]...)...)...)
			at, before = (at+n+2)%x.ring, x.used[i]
		}
		done(t, j.Checkpoint())
		stands(t, "behind a Checkpoint", j, 2+len(x.sizes), 0)
		volumeHas(t, "the head", j.cache.Volume(), y.first, sealed("JHDR", uint64(2+len(x.sizes)), uint32(at)))
	}
}

func TestCheckpoint(t *testing.T) { // P11.4
	s, j := small.behind(t, writes(3, 36), commits, writes(3), commits, write(4, text(1)))
	stands(t, "ahead", j, 4, 7, 4)
	done(t, j.Checkpoint())
	stands(t, "behind", j, 4, 0, 4)
	tells(t, "it goes on", j, 4, text(1))
	if dirty := j.cache.Dirty(); len(dirty) > 0 {
		t.Errorf("dirty are %v", dirty)
	}
	f := s.Fork()
	f.Crash(nil)
	_, v := volumeOf(t, f)
	volumeHas(t, "the head, surely", v, small.first, sealed("JHDR", 4, 7))
	for _, n := range small.owns() {
		want := old(n)
		if n == 3 || n == 36 {
			want = fresh(n)
		}
		volumeHas(t, "at its place, surely", v, n, want)
	}
	again := small.again(t, f, 0)
	stands(t, "behind a crash", again, 5, 0)
	small.tellsAll(t, "behind a crash", again, 3, 36)
	done(t, j.Checkpoint())
	done(t, j.Commit())
	stands(t, "and on", j, 5, 3)
	tells(t, "and on", j, 4, text(1))
}

func TestACheckpointThatIsRefused(t *testing.T) { // P11.4, R2: what was needed still is
	for _, lacking := range []func(s *shelf.Shelf){
		func(s *shelf.Shelf) { s.Stop(0) },
		func(s *shelf.Shelf) { s.Kill(0); s.Kill(1) },
		func(s *shelf.Shelf) { s.Stop(8) },
	} {
		s, j := small.behind(t, writes(3, 36), commits, writes(5))
		lacking(s)
		want := api.ErrIo
		e := j.Checkpoint()
		if s.Off() {
			want = api.ErrOff
		}
		is(t, "Checkpoint", e, want)
		stands(t, "refused", j, 3, 4, 5)
		is(t, "Commit", j.Commit(), want)
		stands(t, "refused", j, 3, 4, 5)
		tells(t, "refused", j, 5, fresh(5))
	}
}

func TestACommitThatTheVolumeRefuses(t *testing.T) { // P11.4, R2
	s, j := small.behind(t, writes(3), commits, writes(5, 6))
	done(t, s.Kill(0))
	done(t, s.Kill(1))
	is(t, "Commit", j.Commit(), api.ErrIo)
	stands(t, "refused", j, 3, 3, 5, 6)
	tells(t, "refused", j, 5, fresh(5))
	j.Abort()
	stands(t, "aborted", j, 3, 3)
}

func TestAFullRingThatIsNotFreed(t *testing.T) { // P11.4: the Checkpoint that comes first is refused
	s, j := wide.behind(t, writes(wide.owns()[:24]...), commits, writes(5))
	s.Stop(0)
	is(t, "Commit", j.Commit(), api.ErrOff)
	stands(t, "refused", j, 3, 26, 5)
}

func TestAFullRingWhoseBlocksCanNotBeWritten(t *testing.T) { // P11.4: the ring could be written
	s, j := wide.behind(t, writes(wide.owns()[:24]...), commits, writes(5))
	turnBoth(t, s, wide, 0)
	is(t, "Commit", j.Commit(), api.ErrIo)
	stands(t, "refused", j, 3, 26, 5)
	wide.lies(t, "refused", j.cache.Volume(), 0, asItStands(2, freshOnes(wide.owns()[:24]...)...)...)
}

func pins(blocks ...int) deed {
	return func(t *testing.T, _ *shelf.Shelf, j *Journal) {
		t.Helper()
		for _, n := range blocks {
			_, e := j.cache.Get(n)
			done(t, e)
			done(t, j.cache.Pin(n))
		}
	}
}

func TestACommitThatTheCacheRefuses(t *testing.T) { // P11.4: what it refuses is still running
	s, j := small.behind(t, pins(0, 1, 2, 4), writes(3, 2, 5, 0))
	is(t, "Commit", j.Commit(), api.ErrFull)
	stands(t, "3 and 5 were refused", j, 3, 6, 3, 5)
	for _, n := range []int{0, 2, 3, 5} {
		tells(t, "refused", j, n, fresh(n))
	}
	if got := j.cache.Dirty(); !slices.Equal(got, []int{0, 2}) {
		t.Errorf("dirty are %v", got)
	}
	small.lies(t, "refused", j.cache.Volume(), 0, asItStands(2, freshOnes(0, 2, 3, 5)...)...)
	small.tellsAll(t, "behind a crash", small.again(t, s.Fork(), 1), 0, 2, 3, 5)
	is(t, "Commit again", j.Commit(), api.ErrFull)
	stands(t, "refused again", j, 4, 10, 3, 5)
	small.lies(t, "refused again", j.cache.Volume(), 6, asItStands(3, freshOnes(3, 5)...)...)
	done(t, j.cache.Unpin(1))
	is(t, "and again", j.Commit(), api.OK)
	stands(t, "done", j, 5, 14)
	small.tellsAll(t, "done", j, 0, 2, 3, 5)
	small.tellsAll(t, "behind a crash", small.again(t, s, 3), 0, 2, 3, 5)
}

func TestTheLastErrorIsTold(t *testing.T) { // P11.4: of several that the cache tells
	x := site{4, 16, 1, 2, 20, 28}
	for _, y := range []struct {
		l    []int
		stop int
		told api.Errno
		left []int
	}{
		{[]int{12}, -1, api.OK, nil},
		{[]int{12, 13}, 1, api.OK, nil},
		{[]int{5}, -1, api.ErrIo, []int{5}},
		{[]int{5, 7, 14}, -1, api.ErrIo, []int{5, 7, 14}},
		{[]int{5, 12}, -1, api.ErrIo, []int{5}},
		{[]int{12, 14}, -1, api.OK, nil},
		{[]int{5, 12, 14}, -1, api.ErrIo, []int{5}},
		{[]int{12, 14}, 1, api.ErrOff, []int{14}},
		{[]int{5, 12, 14}, 1, api.ErrOff, []int{5, 14}},
		{[]int{5, 12, 13}, 1, api.ErrIo, []int{5}},
	} {
		// Both are dirty; 12 is to leave first, and neither its disk nor its parity's is there any more; 13 could leave.
		s, j := x.behind(t, writes(12, 13), commits, dies(0, 3), writes(y.l...), stops(y.stop))
		is(t, "the cache", j.handOver(j.Saved()), y.told)
		if !slices.Equal(j.Running(), y.left) {
			t.Errorf("running are %v, not %v", j.Running(), y.left)
		}
		for _, n := range y.l {
			if !s.Off() {
				tells(t, "refused or not", j, n, fresh(n))
			}
		}
	}
}

func TestOldRoundsAreNotDoneAgain(t *testing.T) { // P11.2: what stands behind the last one is of another seq
	s, j := small.behind(t)
	for i := range 40 {
		block := small.owns()[i%12]
		done(t, j.Write(block, text(i)))
		done(t, j.Commit())
		f := s.Fork()
		again := small.again(t, f, j.Used()/3)
		for k := range min(i+1, 12) {
			n := i - k
			tells(t, "behind a crash", again, small.owns()[n%12], text(n))
		}
		stands(t, "behind a crash", again, j.Seq()+1, 0)
	}
}

func TestOpenGoesOnWhereItEnds(t *testing.T) { // P11.2, P11.4: crash by crash, round the ring
	s, j := small.behind(t)
	seq, at := 2, 0
	for i := range 30 {
		n := 1 + i%3
		blocks := small.owns()[i%9 : i%9+n]
		for k, block := range blocks {
			done(t, j.Write(block, text(100*i+k)))
		}
		done(t, j.Commit())
		stands(t, "committed", j, seq+1, n+2)
		j = small.again(t, s, 1)
		seq, at = seq+2, (at+n+2)%27
		stands(t, "behind a crash", j, seq, 0)
		_, v := volumeOf(t, s)
		volumeHas(t, "behind a crash", v, small.first, sealed("JHDR", uint64(seq), uint32(at)))
		for k, block := range blocks {
			tells(t, "behind a crash", j, block, text(100*i+k))
		}
	}
}

// A hand is what a test lays into the ring itself.
type hand struct {
	what  string
	lay   func(t *testing.T, x site, v *raid.Volume)
	count int
	at    int // where the next one will stand
	fresh []int
}

// laid is a hand that lays one transaction of the seq 1, which one block of may be turned into another.
func laid(what string, count int, turn func(blocks [][]byte), l ...api.Write) hand {
	h := hand{what: what, count: count, lay: func(t *testing.T, x site, v *raid.Volume) {
		blocks := asItStands(1, l...)
		if turn != nil {
			turn(blocks)
		}
		x.lay(t, v, 0, blocks...)
	}}
	if count == 1 {
		h.at = len(l) + 2
		for _, w := range l {
			h.fresh = append(h.fresh, w.Block)
		}
	}
	return h
}

func hands() []hand {
	own := wide.owns()
	sets := func(at int, b func(blocks [][]byte) []byte) func(blocks [][]byte) {
		return func(blocks [][]byte) { blocks[at] = b(blocks) }
	}
	seqs := func(l ...int) func(t *testing.T, x site, v *raid.Volume) {
		return func(t *testing.T, x site, v *raid.Volume) {
			for i, seq := range l {
				x.lay(t, v, 3*i, asItStands(seq, freshOnes(own[i])...)...)
			}
		}
	}
	return []hand{
		laid("one", 1, nil, freshOnes(5)...),
		laid("24", 1, nil, freshOnes(own[:24]...)...),
		laid("the last block", 1, nil, freshOnes(59)...),
		laid("the ones beside the journal", 1, nil, freshOnes(9, 38)...),
		laid("not by rising blocks", 1, nil, freshOnes(7, 3)...),
		laid("the head", 0, nil, freshOnes(5, 10)...),
		laid("the first block of the ring", 0, nil, freshOnes(11, 5)...),
		laid("the last block of the ring", 0, nil, freshOnes(37)...),
		laid("one behind the volume", 0, nil, freshOnes(5, 60)...),
		laid("65535", 0, nil, freshOnes(65535)...),
		laid("no desc", 0, sets(0, func([][]byte) []byte { return make([]byte, 128) }), freshOnes(5)...),
		laid("a desc of more", 0, sets(0, func([][]byte) []byte { return sealed("JDSC", 1, 2, 0, 5, 6) }), freshOnes(5)...),
		laid("a desc of fewer", 0, sets(0, func([][]byte) []byte { return sealed("JDSC", 1, 1, 0, 5) }), freshOnes(5, 6)...),
		laid("a desc of another seq", 0, sets(0, func(l [][]byte) []byte { return sealed("JDSC", 2, 1, 0, 5) }), freshOnes(5)...),
		laid("a desc of another seq, with its sum", 0, func(l [][]byte) {
			l[0] = sealed("JDSC", 2, 1, 0, 5)
			l[2] = sealed("JCMT", 1, sumOf(l[:2]...))
		}, freshOnes(5)...),
		laid("a head as desc", 0, sets(0, func([][]byte) []byte { return sealed("JHDR", 1, 0) }), freshOnes(5)...),
		laid("a mark as desc", 0, sets(0, func([][]byte) []byte { return sealed("JCMT", 1, 0) }), freshOnes(5)...),
		laid("another block", 0, sets(2, func([][]byte) []byte { return text(1) }), freshOnes(5, 6, 7)...),
		laid("no mark", 0, sets(2, func([][]byte) []byte { return make([]byte, 128) }), freshOnes(5)...),
		laid("a mark of another seq", 0, sets(2, func(l [][]byte) []byte { return sealed("JCMT", 2, sumOf(l[:2]...)) }), freshOnes(5)...),
		laid("a mark of an older seq", 0, sets(2, func(l [][]byte) []byte { return sealed("JCMT", 0, sumOf(l[:2]...)) }), freshOnes(5)...),
		laid("another sum", 0, sets(2, func(l [][]byte) []byte { return sealed("JCMT", 1, sumOf(l[:2]...)+1) }), freshOnes(5)...),
		laid("the sum of the blocks alone", 0, sets(2, func(l [][]byte) []byte { return sealed("JCMT", 1, sumOf(l[1])) }), freshOnes(5)...),
		laid("the sum of the desc alone", 0, sets(2, func(l [][]byte) []byte { return sealed("JCMT", 1, sumOf(l[0])) }), freshOnes(5)...),
		{"three", seqs(1, 2, 3), 3, 9, own[:3]},
		{"nine: all of the ring", seqs(1, 2, 3, 4, 5, 6, 7, 8, 9), 9, 0, own[:9]},
		{"a gap", seqs(1, 3, 4), 1, 3, own[:1]},
		{"one twice", seqs(1, 1, 2), 1, 3, own[:1]},
		{"a later one", seqs(2), 0, 0, nil},
		{"an older round behind", seqs(1, 2, 0), 2, 6, own[:2]},
		{"one that just fits", func(t *testing.T, x site, v *raid.Volume) {
			x.lay(t, v, 0, asItStands(1, freshOnes(own[:12]...)...)...)
			x.lay(t, v, 14, asItStands(2, freshOnes(own[12:23]...)...)...)
		}, 2, 0, own[:23]},
		{"one that is longer than what is left", layTooLong, 1, 14, append(own[1:12:12], own[31])},
	}
}

// layTooLong lays two transactions, of which the second one ends within the first one: its last block is that one's desc,
// its mark is that one's first block.
func layTooLong(t *testing.T, x site, v *raid.Volume) {
	own := x.owns()
	first := freshOnes(append([]int{own[31]}, own[1:12]...)...)
	var targets []int
	for n := range 13 {
		targets = append(targets, own[12+n])
	}
	second := [][]byte{sealed("JDSC", 2, asNumbers(0, targets...)...)}
	for n := range 12 {
		second = append(second, fresh(own[12+n]))
	}
	desc := asItStands(1, first...)[0]
	all := append(slices.Clone(second), desc)
	first[0].Data = sealed("JCMT", 2, sumOf(all...))
	blocks := [][]byte{desc}
	for _, w := range first {
		blocks = append(blocks, w.Data)
	}
	blocks = append(blocks, sealed("JCMT", 1, sumOf(blocks...)))
	x.lay(t, v, 0, blocks...)
	x.lay(t, v, 14, second...)
}

// calledAlike fails if a plain Open calls the volume more or less often.
func calledAlike(t *testing.T, s, other *shelf.Shelf, v *raid.Volume) {
	t.Helper()
	_, _, e := plainOpen(wide, cacheOf(t, v, wide.most))
	done(t, e)
	if s.Count() != other.Count() {
		t.Errorf("%d reads, writes and flushes, not %d", s.Count(), other.Count())
	}
}

func TestWhatStandsInTheRing(t *testing.T) { // P11.2: laid by hand
	for _, h := range hands() {
		t.Run(h.what, func(t *testing.T) {
			s, c := wide.ready(t)
			v := c.Volume()
			h.lay(t, wide, v)
			done(t, v.Flush())
			other, w := volumeOf(t, s)
			s, v = volumeOf(t, s)
			c = cacheOf(t, v, wide.most)
			j := wide.open(t, c, h.count)
			calledAlike(t, s, other, w)
			stands(t, "open", j, 2+h.count, 0)
			volumeHas(t, "open", v, wide.first, sealed("JHDR", uint64(2+h.count), uint32(h.at)))
			for _, n := range wide.owns() {
				want := old(n)
				if slices.Contains(h.fresh, n) {
					want = fresh(n)
				}
				if h.what == "one that is longer than what is left" && n == wide.owns()[31] {
					continue // it has the other one's mark
				}
				tells(t, "open", j, n, want)
				volumeHas(t, "open", v, n, want)
			}
		})
	}
}

func TestWhatStandsAnywhereInTheRing(t *testing.T) { // P11.2: from each at on, round the ring's end
	for at := range 27 {
		_, c := wide.ready(t)
		v, own := c.Volume(), wide.owns()
		done(t, v.Write(wide.first, sealed("JHDR", 70, uint32(at))))
		wide.lay(t, v, at, asItStands(70, freshOnes(own[:9]...)...)...)
		wide.lay(t, v, at+11, asItStands(71, freshOnes(own[9:20]...)...)...)
		wide.lay(t, v, at+24, asItStands(72, freshOnes(own[30])...)...)
		j := wide.open(t, c, 3)
		stands(t, "open", j, 74, 0)
		wide.tellsAll(t, "open", j, append(own[:20:20], own[30])...)
		volumeHas(t, "open", v, wide.first, sealed("JHDR", 74, uint32(at)))
	}
}

func TestTurnedOnesAreTurnedBack(t *testing.T) { // P11.2
	for _, turned := range []uint32{0, 1, 2, 4, 7, 5} {
		_, c := wide.ready(t)
		v := c.Volume()
		blocks := [][]byte{sealed("JDSC", 1, asNumbers(turned, 3, 4, 5)...), text(300), text(2), text(600)}
		wide.lay(t, v, 0, append(blocks, sealed("JCMT", 1, sumOf(blocks...)))...)
		j := wide.open(t, c, 1)
		for i := range 3 {
			want := slices.Clone(blocks[1+i])
			if turned>>i&1 == 1 {
				want[0] = 'J'
			}
			tells(t, "turned back", j, 3+i, want)
		}
	}
}

func TestATargetTwice(t *testing.T) { // P11.2: the last one is Put last
	_, c := wide.ready(t)
	wide.lay(t, c.Volume(), 0, asItStands(1, api.Write{Block: 3, Data: text(1)}, api.Write{Block: 3, Data: text(2)})...)
	tells(t, "twice", wide.open(t, c, 1), 3, text(2))
}

func TestOpenThatTheCacheRefuses(t *testing.T) { // P11.2
	s, j := small.behind(t, writes(3, 5), commits)
	s.Crash(nil)
	v, e := raid.Open(s)
	done(t, e)
	c := cacheOf(t, v, 2)
	j.cache = c
	pins(0, 1)(t, s, j)
	if j, n, e := Open(c, small.first, small.length); j != nil || n != 0 || e != api.ErrFull {
		t.Errorf("Open = %v, %d, %d", j != nil, n, e)
	}
	volumeHas(t, "refused", v, small.first, sealed("JHDR", 2, 0))
	done(t, c.Unpin(1))
	j = small.open(t, c, 1)
	small.tellsAll(t, "not refused any more", j, 3, 5)
}

func TestOpenThatCanNotReadTheRing(t *testing.T) { // P11.2: what the volume refuses is told
	for n := range 4 {
		s, _ := small.behind(t, writes(3, 5), commits)
		s.Crash(nil)
		x := small.first + 1 + n
		turnBoth(t, s, small, x)
		v, e := raid.Open(s)
		done(t, e)
		if _, e := v.Read(x); e != api.ErrIo {
			t.Fatalf("the block %d can be read", x)
		}
		if j, n, e := Open(cacheOf(t, v, 4), small.first, small.length); j != nil || n != 0 || e != api.ErrIo {
			t.Errorf("Open = %v, %d, %d", j != nil, n, e)
		}
	}
}

func TestOpenReadsNoMoreThanItNeeds(t *testing.T) { // P11.2: what stands behind the first that is not whole may be bad
	s, j := small.behind(t, writes(3, 5), commits, writes(3), commits)
	s.Crash(nil)
	turnBoth(t, s, small, small.first+1+9) // the next one's first block, of another stripe
	v, e := raid.Open(s)
	done(t, e)
	j = small.open(t, cacheOf(t, v, 4), 2)
	small.tellsAll(t, "open", j, 3, 5)
}

// turnBoth lets the blocks on two other disks of a block's stripe be bad, so that it can't be written; or its own,
// and another one, so that it can't be read.
func turnBoth(t *testing.T, s *shelf.Shelf, x site, block int) {
	t.Helper()
	base, e := lay.Base(x.logs)
	done(t, e)
	spot, e := lay.Map(x.members, block)
	done(t, e)
	for disk := range 2 {
		_, at, e := sums.Place(base + spot.Stripe)
		done(t, e)
		done(t, s.Corrupt((spot.Member+disk)%x.members, at, 77, 0x40))
	}
}
