package journal

import (
	"bytes"
	"maps"
	"math/rand"
	"slices"
	"testing"

	"ashlar/api"
	"ashlar/cache"
	"ashlar/raid"
	"ashlar/shelf"
)

// A plain journal does what the chapter says, over a volume of its own.
type plain struct {
	x             site
	c             *cache.Cache
	seq, at, used int
	running       map[int]string
}

func (p *plain) ring() int { return p.x.length - 1 }

// block is the volume's block of one of the ring's.
func (p *plain) block(n int) int { return p.x.first + 1 + n%p.ring() }

// plainOpen is Open: how many transactions there were is told, too.
func plainOpen(x site, c *cache.Cache) (*plain, int, api.Errno) {
	b, e := c.Volume().Read(x.first)
	if e != api.OK {
		return nil, 0, e
	}
	seq, at, e := ReadHead(b)
	if e != api.OK || at > x.length-2 {
		return nil, 0, api.ErrCode
	}
	p := &plain{x: x, c: c, seq: seq, at: at, running: map[int]string{}}
	count := 0
	for p.used != p.ring() {
		whole, e := p.redone()
		if e != api.OK {
			return nil, 0, e
		}
		if !whole {
			break
		}
		count++
	}
	p.seq++
	if e := p.checkpoint(); e != api.OK {
		return nil, 0, e
	}
	return p, count, api.OK
}

// redone does the transaction at at again, if it is whole.
func (p *plain) redone() (bool, api.Errno) {
	desc, e := p.c.Volume().Read(p.block(p.at))
	if e != api.OK {
		return false, e
	}
	seq, targets, turned, e := ReadDesc(desc)
	n := len(targets) + 2
	if e != api.OK || seq != p.seq || p.used+n > p.ring() {
		return false, api.OK
	}
	for _, block := range targets {
		if !p.x.own(block) {
			return false, api.OK
		}
	}
	all := [][]byte{desc}
	for i := 1; i < n; i++ {
		b, e := p.c.Volume().Read(p.block(p.at + i))
		if e != api.OK {
			return false, e
		}
		all = append(all, b)
	}
	if !bytes.Equal(all[n-1], sealed("JCMT", uint64(p.seq), sumOf(all[:n-1]...))) {
		return false, api.OK
	}
	for i, block := range targets {
		if turned&(1<<i) != 0 {
			all[1+i][0] = 74
		}
		if e := p.c.Put(block, all[1+i]); e != api.OK {
			return false, e
		}
	}
	p.seq, p.at, p.used = p.seq+1, (p.at+n)%p.ring(), p.used+n
	return true, api.OK
}

func (p *plain) checkpoint() api.Errno {
	if e := p.c.Flush(); e != api.OK {
		return e
	}
	if e := p.c.Volume().Write(p.x.first, sealed("JHDR", uint64(p.seq), uint32(p.at))); e != api.OK {
		return e
	}
	if e := p.c.Volume().Flush(); e != api.OK {
		return e
	}
	p.used = 0
	return api.OK
}

func (p *plain) read(block int) (string, api.Errno) {
	if !p.x.own(block) {
		return "", api.ErrArg
	}
	if b, has := p.running[block]; has {
		return b, api.OK
	}
	b, e := p.c.Get(block)
	return string(b), e
}

func (p *plain) write(block int, b []byte) api.Errno {
	_, has := p.running[block]
	switch {
	case !p.x.own(block) || len(b) != 128:
		return api.ErrArg
	case !has && len(p.running) == 24:
		return api.ErrFull
	}
	p.running[block] = string(b)
	return api.OK
}

func (p *plain) undo(l []api.Write) api.Errno {
	was := p.running
	p.running = map[int]string{}
	if len(l) > 24 {
		p.running = was
		return api.ErrArg
	}
	for _, w := range l {
		if e := p.write(w.Block, w.Data); e != api.OK {
			p.running = was
			return e
		}
	}
	return api.OK
}

func (p *plain) writes() []api.Write {
	var l []api.Write
	for n := range p.x.blocks() {
		if b, has := p.running[n]; has {
			l = append(l, api.Write{Block: n, Data: []byte(b)})
		}
	}
	return l
}

func (p *plain) commit() api.Errno {
	l := p.writes()
	if len(l) == 0 {
		return api.OK
	}
	if p.ring()-p.used < len(l)+2 {
		if e := p.checkpoint(); e != api.OK {
			return e
		}
	}
	for i, b := range asItStands(p.seq, l...) {
		if i == len(l)+1 {
			if e := p.c.Volume().Flush(); e != api.OK {
				return e
			}
		}
		if e := p.c.Volume().Write(p.block(p.at+i), b); e != api.OK {
			return e
		}
	}
	if e := p.c.Volume().Flush(); e != api.OK {
		return e
	}
	p.seq, p.at, p.used = p.seq+1, (p.at+len(l)+2)%p.ring(), p.used+len(l)+2
	told := api.OK
	for _, w := range l {
		if e := p.c.Put(w.Block, w.Data); e != api.OK {
			told = e
		} else {
			delete(p.running, w.Block)
		}
	}
	return told
}

// A storm is a journal and a plain one, to both of which the same is done.
type storm struct {
	s, other *shelf.Shelf
	j        *Journal
	p        *plain
	x        site
	now      content // what was committed last
	next     content // what may be instead, behind a Commit that was cut
	pins     []int
	dead     bool
	r        *rand.Rand
	t        *testing.T
}

func stormOf(t *testing.T, x site, seed int64) *storm {
	t.Helper()
	s, _ := x.ready(t)
	w := &storm{s: s, other: s.Fork(), x: x, now: content{}, r: rand.New(rand.NewSource(seed)), t: t}
	for _, n := range x.owns() {
		w.now[n] = string(old(n))
	}
	w.crash(nil)
	return w
}

// both does something to both shelves.
func (w *storm) both(what func(s *shelf.Shelf)) {
	what(w.s)
	what(w.other)
}

// crash lets both open anew, in whose midst the power may go again.
func (w *storm) crash(keep [][]int) {
	w.t.Helper()
	for range 5 {
		w.both(func(s *shelf.Shelf) { s.Crash(keep) })
		if !w.dead && w.r.Intn(8) == 0 {
			w.kill()
		}
		if w.r.Intn(3) == 0 {
			n := w.r.Intn(150)
			w.both(func(s *shelf.Shelf) { s.Stop(n) })
		}
		if w.opened() && !w.s.Off() {
			w.both(func(s *shelf.Shelf) { s.Stop(-1) })
			w.pins = nil
			w.settle()
			return
		}
		keep = keepOf(w.s, func(int) bool { return w.r.Intn(2) == 0 })
	}
	w.both(func(s *shelf.Shelf) { s.Crash(nil) })
	if !w.opened() {
		w.t.Fatal("with power it was not opened")
	}
	w.settle()
}

// opened tells whether both were: if one was, the other one was, with as many transactions.
func (w *storm) opened() bool {
	w.t.Helper()
	v, e := raid.Open(w.s)
	o, f := raid.Open(w.other)
	if e != f || e != api.OK && e != api.ErrOff {
		w.t.Fatalf("the volumes: %d, %d", e, f)
	}
	if e != api.OK {
		return false
	}
	j, n, e := Open(cacheOf(w.t, v, w.x.most), w.x.first, w.x.length)
	p, m, f := plainOpen(w.x, cacheOf(w.t, o, w.x.most))
	if e != f || n != m || (j == nil) != (e != api.OK) || e != api.OK && e != api.ErrOff {
		w.t.Fatalf("Open = %v, %d, %d, not %d, %d", j != nil, n, e, m, f)
	}
	w.j, w.p = j, p
	if e == api.OK {
		w.same("Open", e, f)
	}
	return e == api.OK
}

// settle holds all own blocks against what they may be.
func (w *storm) settle() {
	w.t.Helper()
	got := w.x.contentOf(w.t, w.j)
	other := content{}
	for _, n := range w.x.owns() { // the plain one's cache is used as often
		b, e := w.p.read(n)
		done(w.t, e)
		other[n] = b
	}
	if !maps.Equal(got, other) {
		w.t.Fatal("the plain one has other blocks")
	}
	if !maps.Equal(got, w.now) && (w.next == nil || !maps.Equal(got, w.next)) {
		w.t.Fatal("the blocks are not as they were behind a transaction")
	}
	w.now, w.next = got, nil
}

func (w *storm) kill() {
	disk := w.r.Intn(w.x.members)
	w.dead = true
	w.both(func(s *shelf.Shelf) { done(w.t, s.Kill(disk)) })
}

// same fails if the two are not alike.
func (w *storm) same(what string, got, want api.Errno) {
	w.t.Helper()
	if got != want {
		w.t.Fatalf("%s: %d, not %d", what, got, want)
	}
	j, p := w.j, w.p
	if j.Seq() != p.seq || j.Used() != p.used || !slices.Equal(j.Running(), slices.Sorted(maps.Keys(p.running))) {
		w.t.Fatalf("%s: Seq = %d, Used = %d, Running = %v, not %d, %d", what, j.Seq(), j.Used(), j.Running(), p.seq, p.used)
	}
	if !slices.Equal(j.cache.Blocks(), p.c.Blocks()) || !slices.Equal(j.cache.Dirty(), p.c.Dirty()) {
		w.t.Fatalf("%s: the cache was used otherwise", what)
	}
	if w.s.Count() != w.other.Count() || waits(w.s) != waits(w.other) || w.s.Off() != w.other.Off() {
		w.t.Fatalf("%s: the volume was called otherwise", what)
	}
}

// any is a block that is mostly own, and mostly one of a few.
func (w *storm) any() int {
	own := w.x.owns()
	switch w.r.Intn(30) {
	case 0:
		return w.r.Intn(w.x.blocks()+4) - 2
	case 1, 2, 3, 4, 5:
		return own[w.r.Intn(len(own))]
	}
	return own[w.r.Intn(min(6, len(own)))]
}

func (w *storm) bytes() []byte {
	b := text(w.r.Intn(1 << 20))
	if w.r.Intn(3) == 0 {
		b = jtext(w.r.Intn(1 << 20))
	}
	return b[:[]int{128, 128, 128, 128, 128, 128, 128, 127}[w.r.Intn(8)]]
}

func (w *storm) read() {
	block := w.any()
	b, e := w.j.Read(block)
	want, f := w.p.read(block)
	w.same("Read", e, f)
	if string(b) != want {
		w.t.Fatalf("Read(%d) = %x", block, b)
	}
	_, runs := w.p.running[block]
	if e == api.OK && !runs && want != w.now[block] {
		w.t.Fatalf("Read(%d) tells what was not written last", block)
	}
	clear(b)
}

func (w *storm) write() {
	for range 1 + w.r.Intn(4) {
		block, b := w.any(), w.bytes()
		e := w.j.Write(block, b)
		w.same("Write", e, w.p.write(block, b))
		clear(b)
	}
}

// undo lets the running transaction be as it was, or anything.
func (w *storm) undo() {
	l := w.j.Saved()
	if w.r.Intn(2) == 0 {
		w.write()
	}
	for range w.r.Intn(3) {
		l = append(l, api.Write{Block: w.any(), Data: w.bytes()})
	}
	if w.r.Intn(20) == 0 {
		l = slices.Repeat(l, 9)
	}
	e := w.j.Undo(l)
	w.same("Undo", e, w.p.undo(l))
	if want := w.p.writes(); !slices.EqualFunc(w.j.Saved(), want, func(a, b api.Write) bool {
		return a.Block == b.Block && bytes.Equal(a.Data, b.Data)
	}) {
		w.t.Fatalf("Saved = %v, not %v", w.j.Saved(), want)
	}
}

// commit is a Commit, in whose midst the power may go.
func (w *storm) commit() {
	w.t.Helper()
	next := maps.Clone(w.now)
	for block, b := range w.p.running {
		next[block] = b
	}
	e := w.j.Commit()
	w.same("Commit", e, w.p.commit())
	if w.s.Off() && e != api.OK {
		w.next = next
		return
	}
	for block := range w.p.running { // the cache refused it: an Abort may follow
		next[block] = w.now[block]
	}
	w.now = next
	if e != api.OK && e != api.ErrFull {
		w.t.Fatalf("Commit: %d", e)
	}
}

func (w *storm) step() {
	switch w.r.Intn(20) {
	case 0, 1, 2, 3, 4, 5:
		w.read()
	case 6, 7, 8, 9, 10, 11:
		w.write()
	case 12:
		w.undo()
	case 13:
		w.j.Abort()
		clear(w.p.running)
		w.same("Abort", api.OK, api.OK)
	case 14:
		e := w.j.Checkpoint()
		w.same("Checkpoint", e, w.p.checkpoint())
	default:
		w.commit()
	}
}

func TestStorms(t *testing.T) { // P11.3, P11.4, P11.6, P11.7
	for seed := range 250 {
		w := stormOf(t, sites[seed%len(sites)], int64(seed))
		for range 150 {
			if w.r.Intn(12) == 0 {
				n := w.r.Intn(200)
				w.both(func(s *shelf.Shelf) { s.Stop(n) })
			}
			if !w.dead && w.r.Intn(100) == 0 {
				w.kill()
			}
			w.step()
			if w.s.Off() || w.r.Intn(40) == 0 {
				w.crash(keepOf(w.s, func(int) bool { return w.r.Intn(2) == 0 }))
			}
		}
	}
}

func TestStormsWithPins(t *testing.T) { // P11.3, P11.4, P11.6: what the cache refuses is still read
	for seed := range 120 {
		w := stormOf(t, sites[seed%len(sites)], int64(1000+seed))
		for range 200 {
			switch w.r.Intn(8) {
			case 0:
				w.pin()
			case 1:
				w.unpin()
			}
			w.step()
		}
		for len(w.pins) > 0 {
			w.unpin()
		}
		w.commit()
		// What was pinned, or refused, at a Checkpoint is in the ring no more: only another one lets it be sure.
		is(t, "Checkpoint", w.j.Checkpoint(), w.p.checkpoint())
		w.crash(nil)
	}
}

func (w *storm) pin() {
	blocks := w.j.cache.Blocks()
	if len(blocks) == 0 {
		return
	}
	n := blocks[w.r.Intn(len(blocks))]
	done(w.t, w.j.cache.Pin(n))
	done(w.t, w.p.c.Pin(n))
	w.pins = append(w.pins, n)
}

func (w *storm) unpin() {
	if len(w.pins) == 0 {
		return
	}
	n := w.pins[0]
	w.pins = w.pins[1:]
	done(w.t, w.j.cache.Unpin(n))
	done(w.t, w.p.c.Unpin(n))
}

func TestWhateverComesIn(t *testing.T) { // P1, R1: two may be dead, blocks bad, and the power off
	r := rand.New(rand.NewSource(5))
	for seed := range 60 {
		x := sites[seed%len(sites)]
		s, c := x.ready(t)
		j := x.open(t, c, 0)
		for range 150 {
			n := r.Intn(x.blocks()+4) - 2
			switch r.Intn(16) {
			case 0:
				s.Stop(r.Intn(100))
			case 1:
				if r.Intn(10) == 0 {
					s.Kill(r.Intn(x.members))
				}
			case 2:
				_, sectors := s.Size()
				s.Corrupt(r.Intn(x.members), r.Intn(sectors), r.Intn(128), byte(1+r.Intn(255)))
			case 3:
				s.Crash(keepOf(s, func(int) bool { return r.Intn(2) == 0 }))
				v, e := raid.Open(s)
				if e != api.OK {
					continue
				}
				c = cacheOf(t, v, x.most)
				if again, count, e := Open(c, x.first, x.length); e == api.OK {
					j = again
				} else if again != nil || count != 0 {
					t.Fatalf("Open = %v, %d, %d", again != nil, count, e)
				}
			case 4, 5, 6, 7:
				j.Write(n, text(n))
			case 8:
				j.Undo(append(j.Saved(), api.Write{Block: n, Data: text(n)}))
			case 9:
				j.Checkpoint()
			case 10, 11, 12:
				if b, e := j.Read(n); (b == nil) != (e != api.OK) {
					t.Fatalf("Read = %v, %d", b, e)
				}
			default:
				e := j.Commit()
				if j.Used() > x.length-1 || e == api.OK && len(j.Running()) > 0 {
					t.Fatalf("Commit: %d; Used = %d, Running = %v", e, j.Used(), j.Running())
				}
			}
		}
	}
}
