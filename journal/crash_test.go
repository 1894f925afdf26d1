package journal

import (
	"maps"
	"math/rand"
	"slices"
	"testing"

	"ashlar/api"
	"ashlar/cache"
	"ashlar/raid"
	"ashlar/shelf"
)

// waits is how many writes wait on all disks.
func waits(s *shelf.Shelf) int {
	disks, _ := s.Size()
	n := 0
	for d := range disks {
		n += s.Waits(d)
	}
	return n
}

// keepOf is what a crash keeps: those of all waiting writes that a function takes.
func keepOf(s *shelf.Shelf, kept func(number int) bool) [][]int {
	disks, _ := s.Size()
	keep, number := make([][]int, disks), 0
	for d := range disks {
		for k := range s.Waits(d) {
			if kept(number) {
				keep[d] = append(keep[d], k)
			}
			number++
		}
	}
	return keep
}

// someKeeps calls a function with lists of what a crash may keep: all lists, or none, all and some, if those are too many.
func someKeeps(s *shelf.Shelf, then func(keep [][]int)) {
	total := waits(s)
	if total <= 3 {
		for which := range 1 << total {
			then(keepOf(s, func(number int) bool { return which>>number&1 == 1 }))
		}
		return
	}
	then(nil)
	then(keepOf(s, func(int) bool { return true }))
	r := rand.New(rand.NewSource(int64(total)))
	for range 4 {
		then(keepOf(s, func(int) bool { return r.Intn(2) == 0 }))
	}
	for range 2 {
		one := r.Intn(total)
		then(keepOf(s, func(number int) bool { return number == one }))
		then(keepOf(s, func(number int) bool { return number != one }))
	}
}

// A content is what all own blocks have.
type content map[int]string

// contentOf is what a journal tells without its running transaction.
func (x site) contentOf(t *testing.T, j *Journal) content {
	t.Helper()
	l := j.Saved()
	j.Abort()
	all := content{}
	for _, n := range x.owns() {
		b, e := j.Read(n)
		done(t, e)
		all[n] = string(b)
	}
	done(t, j.Undo(l))
	return all
}

// reopen is Open over disks that have just had a crash.
func (x site) reopen(t *testing.T, s *shelf.Shelf) (*Journal, int, api.Errno) {
	t.Helper()
	v, e := raid.Open(s)
	if e != api.OK {
		return nil, 0, e
	}
	return Open(cacheOf(t, v, x.most), x.first, x.length)
}

// isOne fails if all own blocks are not as one of these has them.
func (x site) isOne(t *testing.T, what string, s *shelf.Shelf, may ...content) {
	t.Helper()
	j, _, e := x.reopen(t, s)
	if e != api.OK {
		t.Fatalf("%s: Open: %d", what, e)
	}
	now := x.contentOf(t, j)
	for _, c := range may {
		if maps.Equal(c, now) {
			return
		}
	}
	var other []int
	for _, n := range x.owns() {
		if now[n] != may[0][n] {
			other = append(other, n)
		}
	}
	t.Fatalf("%s: the blocks %v of %d are not as ahead", what, other, len(now))
}

// A cut is a call in whose middle the power goes, behind some deeds.
type cut struct {
	what  string
	x     site
	deeds []deed
	call  func(j *Journal) api.Errno
}

func commitOf(j *Journal) api.Errno     { return j.Commit() }
func checkpointOf(j *Journal) api.Errno { return j.Checkpoint() }

func openOf(x site) func(j *Journal) api.Errno {
	return func(j *Journal) api.Errno {
		c, e := cache.New(j.cache.Volume(), x.most)
		if e != api.OK {
			return e
		}
		_, _, e = Open(c, x.first, x.length)
		return e
	}
}

func cuts() []cut {
	own := wide.owns()
	tight := wide
	tight.most = 2
	thin := site{3, 16, 1, 1, 4, 28}
	round := func(deeds ...deed) []deed { // the next transaction goes round the ring's end
		return append([]deed{writes(own[:23]...), commits, checkpoints}, deeds...)
	}
	return []cut{
		{"a Commit of one", small, []deed{writes(3)}, commitOf},
		{"a Commit of some", small, []deed{writes(0, 1, 2, 7, 36, 39)}, commitOf},
		{"a Commit of a J", small, []deed{write(3, jtext(1)), write(4, jtext(2))}, commitOf},
		{"a Commit behind others", small, []deed{writes(0, 1), commits, writes(2, 7), commits, writes(1, 39), write(0, text(7))}, commitOf},
		{"a Commit behind an Abort", small, []deed{writes(0, 1), aborts, writes(2)}, commitOf},
		{"a Commit round the ring's end", wide, round(writes(own[3:11]...)), commitOf},
		{"a Commit that a Checkpoint comes ahead of", wide, []deed{writes(own[:24]...), commits, write(own[1], text(3)), writes(own[30])}, commitOf},
		{"a Commit in a cache of two", tight, []deed{writes(own[:9]...), commits, writes(own[5:12]...), write(own[2], text(1))}, commitOf},
		{"a Commit in a cache of one", thin, []deed{writes(0, 1, 2, 3), commits, write(0, text(1)), write(2, text(2))}, commitOf},
		{"a Checkpoint of nothing", small, nil, checkpointOf},
		{"a Checkpoint", small, []deed{writes(0, 1, 39), commits, writes(4)}, checkpointOf},
		{"a Checkpoint of several", tight, []deed{writes(own[:5]...), commits, writes(own[3:9]...), commits, write(own[4], text(3)), commits}, checkpointOf},
		{"an Open of nothing", small, nil, openOf(small)},
		{"an Open", small, []deed{writes(0, 1), commits}, openOf(small)},
		{"an Open of several", small, []deed{writes(0, 1), commits, write(1, text(1)), writes(2), commits, write(0, text(2)), commits}, openOf(small)},
		{"an Open in a cache of two", tight, []deed{writes(own[:9]...), commits, writes(own[3:7]...), write(own[4], text(1)), commits}, openOf(tight)},
		{"an Open of what goes round", wide, round(writes(own[:6]...), commits), openOf(wide)},
	}
}

// all is what may be behind a crash in the cut's call: what was, and what is when it is done.
func (c cut) all(t *testing.T) (was, next content) {
	t.Helper()
	_, j := c.x.behind(t, c.deeds...)
	was = c.x.contentOf(t, j)
	done(t, c.call(j))
	return was, c.x.contentOf(t, j)
}

func TestThePowerGoesWithinACall(t *testing.T) { // P11.7
	for i, c := range cuts() {
		was, next := c.all(t)
		for _, dead := range []int{-1, i % c.x.members} {
			r := rand.New(rand.NewSource(int64(i)))
			for n, off := 0, true; off; n++ {
				s, j := c.x.behind(t, c.deeds...)
				if dead >= 0 {
					done(t, s.Kill(dead))
				}
				s.Stop(n)
				e := c.call(j)
				off = s.Off()
				if e != api.OK && (e != api.ErrOff || !off) {
					t.Fatalf("%s: behind %d: error %d", c.what, n, e)
				}
				may := []content{was, next}
				if e == api.OK {
					may = []content{next}
				}
				someKeeps(s, func(keep [][]int) { c.crashes(t, r, s, keep, dead, may) })
				if t.Failed() {
					return
				}
			}
		}
	}
}

// crashes looks at what is there behind a crash, and behind another one in the midst of the Open.
func (c cut) crashes(t *testing.T, r *rand.Rand, s *shelf.Shelf, keep [][]int, dead int, may []content) {
	t.Helper()
	f := s.Fork()
	if dead < 0 && r.Intn(2) == 0 {
		done(t, f.Kill(r.Intn(c.x.members)))
	}
	f.Crash(keep)
	if r.Intn(4) == 0 {
		g := f.Fork()
		g.Stop(r.Intn(80))
		_, _, e := c.x.reopen(t, g)
		if e != api.OK && e != api.ErrOff {
			t.Fatalf("%s: a cut Open: %d", c.what, e)
		}
		g.Crash(keepOf(g, func(int) bool { return r.Intn(2) == 0 }))
		c.x.isOne(t, c.what+", twice", g, may...)
	}
	c.x.isOne(t, c.what, f, may...)
}

func TestThePowerGoesWithinAFormat(t *testing.T) { // P11.2, P11.7
	for _, x := range []site{small, wide} {
		off := true
		for n := 0; off; n += 1 + n%5 {
			s, v := x.full(t)
			s.Stop(n)
			e := Format(cacheOf(t, v, x.most), x.first, x.length)
			off = s.Off()
			if e != api.OK && e != api.ErrOff {
				t.Fatalf("behind %d: error %d", n, e)
			}
			someKeeps(s, func(keep [][]int) {
				f := s.Fork()
				f.Crash(keep)
				j, count, was := x.reopen(t, f)
				if was != api.OK && (was != api.ErrCode || e == api.OK) || count != 0 {
					t.Fatalf("behind %d: Open: %d, %d", n, count, was)
				}
				if was == api.OK {
					stands(t, "formatted", j, 2, 0)
					x.tellsAll(t, "formatted", j)
				}
				_, v := volumeOf(t, f)
				for _, n := range x.owns() {
					volumeHas(t, "it is none of the journal's", v, n, old(n))
				}
			})
		}
	}
}

func TestEachFormatThatIsCutAtItsEnd(t *testing.T) { // P11.2: the head is written behind a flush of the noughts
	s, v := small.full(t)
	count := writesOf(t, s, func() { done(t, Format(cacheOf(t, v, 4), small.first, small.length)) })
	heads := 0
	for n := count - 20; n <= count; n++ {
		s, v := small.full(t)
		s.Stop(n)
		is(t, "Format", Format(cacheOf(t, v, 4), small.first, small.length), api.ErrOff)
		someKeeps(s, func(keep [][]int) {
			f := s.Fork()
			f.Crash(keep)
			_, v := volumeOf(t, f)
			if b, e := v.Read(small.first); e == api.OK && slices.Equal(b, sealed("JHDR", 1, 0)) {
				heads++
				small.lies(t, "there is a head", v, 0, slices.Repeat([][]byte{make([]byte, 128)}, 27)...)
			}
		})
	}
	if heads == 0 {
		t.Error("there was never a head")
	}
}

// writesOf is ahead of how many writes and flushes the power may go in a call, so that it is not done.
func writesOf(t *testing.T, s *shelf.Shelf, call func()) int {
	t.Helper()
	const many = 100000
	s.Stop(many)
	call()
	for n := 0; ; n++ {
		done(t, s.Flush(0))
		if s.Off() {
			return many - n - 2
		}
	}
}
