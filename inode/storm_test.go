package inode

import (
	"bytes"
	"math/rand"
	"testing"

	"ashlar/api"
)

// A storm is a table, and a plain one to which the same is done.
type storm struct {
	*site
	now, sure *plain
	r         *rand.Rand
	t         *testing.T
}

func stormOf(t *testing.T, x shape, seed int64) *storm {
	w := &storm{site: x.ready(t), now: plainOf(x), sure: plainOf(x), r: rand.New(rand.NewSource(seed)), t: t}
	w.commit()
	return w
}

func (w *storm) commit() {
	done(w.t, w.j.Commit())
	w.sure = w.now.clone()
}

// room lets the running transaction be without blocks.
func (w *storm) room() {
	if len(w.j.Running()) > 0 && w.r.Intn(8) > 0 {
		w.commit()
	}
}

// at is a place at which something may go wrong: around the ends of blocks, and of ways.
func (w *storm) at() int {
	ends := []int{0, 1, 2, 7, 8, 9, 10, 39, 40, 41, 71, 72, 73, 104, 500, 1031, 1032, 1063, 1064}
	at := 128*ends[w.r.Intn(len(ends))] + w.r.Intn(9)*[]int{0, 1, 32, 128}[w.r.Intn(4)] - w.r.Intn(3)
	return min(max(at, 0), 136192)
}

func (w *storm) length() int {
	return []int{0, 1, 2, 127, 128, 129, 200, 256, 1023, 1024, w.r.Intn(1025)}[w.r.Intn(11)]
}

// refused is what all calls tell of a place without a file.
func (w *storm) refused(ino int, e api.Errno) api.Errno {
	if w.now.files[ino].kind == 0 {
		return api.ErrNone
	}
	return e
}

func (w *storm) write(ino int) {
	w.room()
	off, b := w.at(), text(w.r.Intn(255), w.length())
	was, n, next := w.j.Running(), 0, w.now.clone()
	want := w.refused(ino, api.OK)
	if want == api.OK {
		n = len(next.lacking(ino, off, len(b)))
		want = next.write(ino, off, b)
	}
	need, e := w.f.Need(ino, off, len(b))
	if want != api.OK && want != api.ErrNospc {
		n = 0
	}
	if need != n || (e == api.OK) != (want == api.OK || want == api.ErrNospc) {
		w.t.Fatalf("Need(%d, %d, %d) = %d, %d, not %d, %d", ino, off, len(b), need, e, n, want)
	}
	e = w.f.Write(ino, off, b)
	if e == api.ErrFull && len(was) > 24-18 {
		w.j.Abort()
		w.now = w.sure.clone()
		return
	}
	if e != want {
		w.t.Fatalf("Write(%d, %d, %d) = %d, not %d", ino, off, len(b), e, want)
	}
	if e == api.OK {
		w.now = next
	}
	if l := w.j.Running(); len(l)-len(was) > 18 {
		w.t.Fatalf("Write(%d, %d, %d) writes %v", ino, off, len(b), l)
	}
	clear(b)
}

func (w *storm) cut(ino int) {
	w.room()
	size := w.at()
	if w.r.Intn(3) == 0 {
		size = w.r.Intn(w.now.files[ino].size + 2)
	}
	was := w.j.Running()
	e := w.f.Cut(ino, size)
	if e == api.ErrFull && len(was) > 24-12 {
		w.j.Abort()
		w.now = w.sure.clone()
		return
	}
	if e != w.refused(ino, api.OK) {
		w.t.Fatalf("Cut(%d, %d) = %d", ino, size, e)
	}
	if e == api.OK {
		w.now.cut(ino, size)
	}
	if l := w.j.Running(); len(l)-len(was) > 12 {
		w.t.Fatalf("Cut(%d, %d) writes %v", ino, size, l)
	}
}

func (w *storm) read(ino int) {
	off, n := w.at(), w.length()
	want := w.now.files[ino].read(off, n)
	b, e := w.f.Read(ino, off, n)
	if !bytes.Equal(b, want) || e != w.refused(ino, api.OK) {
		w.t.Fatalf("Read(%d, %d, %d) = %x, %d, not %x", ino, off, n, b, e, want)
	}
	clear(b)
}

// turn makes a file, or ends one.
func (w *storm) turn(ino int) {
	w.room()
	f := &w.now.files[ino]
	n := api.Inode{}
	switch {
	case f.kind == 0:
		f.kind, f.links = 1+w.r.Intn(2), w.r.Intn(201)
		n.Kind, n.Links = f.kind, f.links
	case len(f.blocks) == 0:
		*f = plainFile{blocks: f.blocks, bytes: f.bytes}
	default:
		return
	}
	if e := w.f.Set(ino, n); e == api.ErrFull {
		w.j.Abort()
		w.now = w.sure.clone()
	} else {
		done(w.t, e)
	}
}

func (w *storm) step() {
	ino := w.r.Intn(w.files)
	switch k := w.r.Intn(100); {
	case k < 45:
		w.write(ino)
	case k < 60:
		w.cut(ino)
	case k < 80:
		w.read(ino)
	case k < 88:
		w.turn(ino)
	case k < 92:
		w.j.Abort()
		w.now = w.sure.clone()
	case k < 97:
		w.commit()
	default:
		w.site.crash(w.t)
		w.now = w.sure.clone()
	}
}

func TestStorms(t *testing.T) { // P13.3, P13.4, P13.5, P13.6
	for _, x := range []shape{small, tight, narrow, big} {
		for seed := range int64(5) {
			w := stormOf(t, x, seed)
			for range 200 {
				w.step()
				if w.r.Intn(5) == 0 {
					w.settle(t, w.now)
				}
			}
			w.settle(t, w.now)
			for ino := range w.files { // in the end no file takes anything
				w.commit()
				done(t, w.f.Set(ino, w.now.files[ino].inode(w.base())))
				if w.now.files[ino].kind != 0 {
					done(t, w.f.Cut(ino, 0))
				}
			}
			w.free(t, w.things)
		}
	}
}
