package cache

import (
	"bytes"
	"math/rand"
	"slices"
	"testing"

	"ashlar/api"
	"ashlar/raid"
	"ashlar/shelf"
)

// A plain cache is a list of blocks, over a volume of its own.
type plain struct {
	v    *raid.Volume
	most int
	list []held // the one that was used longest ago first
}

type held struct {
	block int
	bytes string
	dirty bool
	pins  int
}

func (p *plain) find(block int) int {
	return slices.IndexFunc(p.list, func(h held) bool { return h.block == block })
}

// add lets a block that is not in the list be its last one.
func (p *plain) add(h held) api.Errno {
	for at := 0; len(p.list) == p.most; at++ {
		switch {
		case at == p.most:
			return api.ErrFull
		case p.list[at].pins > 0:
			continue
		case p.list[at].dirty:
			if e := p.v.Write(p.list[at].block, []byte(p.list[at].bytes)); e != api.OK {
				return e
			}
		}
		p.list = append(append([]held(nil), p.list[:at]...), p.list[at+1:]...)
	}
	p.list = append(p.list, h)
	return api.OK
}

// last takes a block out of the list, and lets it be the last one.
func (p *plain) last(at int) *held {
	h := p.list[at]
	p.list = append(append(append([]held(nil), p.list[:at]...), p.list[at+1:]...), h)
	return &p.list[len(p.list)-1]
}

func (p *plain) get(block int) (string, api.Errno) {
	if block < 0 || block >= p.v.Size() {
		return "", api.ErrArg
	}
	if at := p.find(block); at >= 0 {
		return p.last(at).bytes, api.OK
	}
	b, e := p.v.Read(block)
	if e == api.OK {
		e = p.add(held{block: block, bytes: string(b)})
	}
	if e != api.OK {
		return "", e
	}
	return string(b), api.OK
}

func (p *plain) put(block int, b []byte) api.Errno {
	if block < 0 || block >= p.v.Size() || len(b) != 128 {
		return api.ErrArg
	}
	if at := p.find(block); at >= 0 {
		h := p.last(at)
		h.bytes, h.dirty = string(b), true
		return api.OK
	}
	return p.add(held{block: block, bytes: string(b), dirty: true})
}

func (p *plain) pin(block, more int) api.Errno {
	at := p.find(block)
	if at < 0 || p.list[at].pins+more < 0 {
		return api.ErrNone
	}
	p.list[at].pins += more
	return api.OK
}

func (p *plain) flush() api.Errno {
	for block := range p.v.Size() {
		if at := p.find(block); at >= 0 && p.list[at].dirty && p.list[at].pins == 0 {
			if e := p.v.Write(block, []byte(p.list[at].bytes)); e != api.OK {
				return e
			}
			p.list[at].dirty = false
		}
	}
	return p.v.Flush()
}

func (p *plain) blocks() (all, dirty []int) {
	for _, h := range p.list {
		all = append(all, h.block)
		if h.dirty {
			dirty = append(dirty, h.block)
		}
	}
	slices.Sort(dirty)
	return all, dirty
}

// pinned is how many blocks are.
func (p *plain) pinned() int {
	n := 0
	for _, h := range p.list {
		n += min(h.pins, 1)
	}
	return n
}

// A storm is a cache and a plain one, to both of which the same is done.
type storm struct {
	s, other *shelf.Shelf
	c        *Cache
	p        *plain
	x        shape
	put      map[int]string // what was Put last, or what the volume had
	open     map[int]string // what the volume had of blocks when they were pinned
	r        *rand.Rand
	t        *testing.T
}

func stormOf(t *testing.T, x shape, most int, seed int64) *storm {
	t.Helper()
	s, v := x.full(t)
	other := s.Fork()
	w, e := raid.Open(other)
	done(t, e)
	v, e = raid.Open(s)
	done(t, e)
	put := map[int]string{}
	for block := range x.blocks() {
		put[block] = string(old(block))
	}
	return &storm{
		s: s, other: other, c: cacheOf(t, v, most), p: &plain{v: w, most: most}, x: x,
		put: put, open: map[int]string{}, r: rand.New(rand.NewSource(seed)), t: t,
	}
}

// step does one thing to both.
func (w *storm) step() {
	block := w.r.Intn(w.x.blocks()+2) - 1
	switch w.r.Intn(12) {
	case 0, 1, 2:
		b, e := w.c.Get(block)
		want, f := w.p.get(block)
		w.same("Get", e, f)
		if string(b) != want {
			w.t.Fatalf("Get(%d) = %x, not %x", block, b, want)
		}
		if e == api.OK && want != w.put[block] {
			w.t.Fatalf("Get(%d) = %x, which was not Put last", block, want)
		}
	case 3, 4, 5, 6:
		b := text(w.r.Intn(1 << 16))
		b = b[:[]int{128, 128, 128, 128, 128, 128, 127, 0}[w.r.Intn(8)]]
		e := w.c.Put(block, b)
		w.same("Put", e, w.p.put(block, b))
		if e == api.OK {
			w.put[block] = string(b)
		}
		clear(b)
	case 7, 8:
		if kept := w.c.Blocks(); len(kept) > 0 && w.r.Intn(3) > 0 {
			block = kept[w.r.Intn(len(kept))]
		}
		e := w.c.Pin(block)
		w.same("Pin", e, w.p.pin(block, 1))
		b, f := w.read(block)
		if _, pinned := w.open[block]; !pinned && e == api.OK && f == api.OK {
			w.open[block] = string(b)
		}
	case 9, 10:
		w.unpin(block)
	default:
		w.same("Flush", w.c.Flush(), w.p.flush())
	}
}

// read is what both volumes have of a block.
func (w *storm) read(block int) ([]byte, api.Errno) {
	w.t.Helper()
	b, e := w.c.Volume().Read(block)
	if g, f := w.p.v.Read(block); f != e || !bytes.Equal(b, g) {
		w.t.Fatalf("the volumes have not the same of the block %d", block)
	}
	return b, e
}

func (w *storm) unpin(block int) {
	if at := slices.IndexFunc(w.p.list, func(h held) bool { return h.pins > 0 }); at >= 0 && w.r.Intn(5) > 0 {
		block = w.p.list[at].block
	}
	w.same("Unpin", w.c.Unpin(block), w.p.pin(block, -1))
	if at := w.p.find(block); at >= 0 && w.p.list[at].pins == 0 {
		delete(w.open, block)
	}
}

// same fails if the two are not alike.
func (w *storm) same(what string, got, want api.Errno) {
	w.t.Helper()
	if got != want {
		w.t.Fatalf("%s: %d, not %d", what, got, want)
	}
	all, dirty := w.p.blocks()
	if a, d := w.c.Blocks(), w.c.Dirty(); !slices.Equal(a, all) || !slices.Equal(d, dirty) {
		w.t.Fatalf("%s: Blocks = %v, Dirty = %v, not %v, %v", what, a, d, all, dirty)
	}
	if w.s.Count() != w.other.Count() || waits(w.s) != waits(w.other) {
		w.t.Fatalf("%s: the volume was called otherwise", what)
	}
}

// pinnedStay fails if a pinned block is not kept, or was written to the volume.
func (w *storm) pinnedStay() {
	kept := w.c.Blocks()
	for block, was := range w.open {
		if !slices.Contains(kept, block) {
			w.t.Fatalf("the block %d is pinned, and not kept", block)
		}
		if b, e := w.read(block); e == api.OK && string(b) != was {
			w.t.Fatalf("the block %d is pinned, and written", block)
		}
	}
}

// volumeHasAll fails if the volume has not surely what was Put.
func (w *storm) volumeHasAll() {
	f := w.s.Fork()
	f.Crash(nil)
	v, e := raid.Open(f)
	done(w.t, e)
	for block, want := range w.put {
		if b, e := v.Read(block); e != api.OK || string(b) != want {
			w.t.Fatalf("behind a Flush the volume's block %d: %x, %d", block, b, e)
		}
	}
}

// both does something to both shelves.
func (w *storm) both(what func(s *shelf.Shelf)) {
	what(w.s)
	what(w.other)
}

func TestStorms(t *testing.T) { // P10.1 to P10.4
	for seed := range 60 {
		x := []shape{{3, 3, 1}, {4, 3, 2}, {5, 2, 1}}[seed%3]
		w := stormOf(t, x, 1+seed/3%6, int64(seed))
		for n := range 400 {
			w.step()
			w.pinnedStay()
			if n == 200 && seed%2 == 1 {
				disk := w.r.Intn(x.members)
				w.both(func(s *shelf.Shelf) { done(t, s.Kill(disk)) })
			}
			if w.p.pinned() == 0 && w.r.Intn(4) == 0 {
				w.same("Flush", w.c.Flush(), w.p.flush())
				w.volumeHasAll()
			}
		}
	}
}

func TestStormsOfWhatIsRefused(t *testing.T) { // P10.1, P10.2, R2: two are dead, or the power is off
	for seed := range 60 {
		x := []shape{{3, 3, 1}, {4, 3, 2}, {5, 2, 1}}[seed%3]
		w := stormOf(t, x, 1+seed/3%6, int64(1000+seed))
		for range 100 {
			w.step()
		}
		first := w.r.Intn(x.members)
		w.both(func(s *shelf.Shelf) {
			if seed%4 != 0 {
				done(t, s.Kill(first))
				done(t, s.Kill((first+1)%x.members))
			}
			if seed%4 != 1 {
				s.Stop(10)
			}
		})
		for range 200 {
			w.step()
			w.pinnedStay()
		}
		w.both(func(s *shelf.Shelf) { s.Crash(nil) }) // the cache outlives it, but what the volume lost may be known
		clear(w.open)
		for block := range w.put {
			b, e := w.c.Get(block)
			want, f := w.p.get(block)
			w.same("Get", e, f)
			if string(b) != want {
				t.Fatalf("Get(%d) = %x, not %x", block, b, want)
			}
		}
	}
}
