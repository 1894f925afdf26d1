package alloc

import (
	"maps"
	"math/rand"
	"slices"
	"testing"

	"ashlar/api"
	"ashlar/journal"
	"ashlar/shelf"
)

// things are the ones that are taken, as a plain map has them.
type things map[int]struct{}

// A storm is a map, and what it should tell.
type storm struct {
	x            shape
	s            *shelf.Shelf
	j            *journal.Journal
	m            *Map
	first, count int
	now, sure    things
	r            *rand.Rand
	t            *testing.T
}

// least is the first thing that is free.
func (w *storm) least() (int, api.Errno) {
	for i := range w.count {
		if _, has := w.now[i]; !has {
			return i, api.OK
		}
	}
	return 0, api.ErrNospc
}

func (w *storm) take() {
	want, f := w.least()
	i, e := w.m.Take()
	if i != want || e != f {
		w.t.Fatalf("Take = %d, %d, not %d, %d", i, e, want, f)
	}
	if e == api.OK {
		w.now[i] = struct{}{}
	}
}

func (w *storm) give() {
	i := w.r.Intn(w.count+4) - 2
	_, has := w.now[i]
	want := api.OK
	switch {
	case i < 0 || i >= w.count:
		want = api.ErrArg
	case !has:
		want = api.ErrState
	}
	if got, e := w.m.Has(i); got != has || (e == api.ErrArg) != (want == api.ErrArg) {
		w.t.Fatalf("Has(%d) = %v, %d", i, got, e)
	}
	if e := w.m.Give(i); e != want {
		w.t.Fatalf("Give(%d) = %d, not %d", i, e, want)
	}
	delete(w.now, i)
}

// crash loses all that was not committed.
func (w *storm) crash() {
	w.j = w.x.again(w.t, w.s)
	w.m = mapOf(w.t, w.j, w.first, w.count)
	w.now = maps.Clone(w.sure)
}

func (w *storm) step() {
	switch k := w.r.Intn(100); {
	case k < 50:
		w.take()
	case k < 90:
		w.give()
	case k < 93:
		w.j.Abort()
		w.now = maps.Clone(w.sure)
	case k < 98:
		done(w.t, w.j.Commit())
		w.sure = maps.Clone(w.now)
	default:
		w.crash()
	}
}

// settle holds all things against the plain ones.
func (w *storm) settle() {
	if l, want := taken(w.t, w.m), slices.Sorted(maps.Keys(w.now)); !slices.Equal(l, want) {
		w.t.Fatalf("taken are %v, not %v", l, want)
	}
	if n, e := w.m.Free(); n != w.count-len(w.now) || e != api.OK {
		w.t.Fatalf("Free = %d, %d, not %d", n, e, w.count-len(w.now))
	}
}

func TestStorms(t *testing.T) { // P12.2, P12.3, P12.4
	for seed := range int64(6) {
		for _, count := range []int{1, 3, 20, 1030, 4096} {
			w := &storm{x: small, first: 5, count: count, now: things{}, sure: things{}, r: rand.New(rand.NewSource(seed)), t: t}
			w.s, w.j = w.x.ready(t)
			w.m = mapOf(t, w.j, w.first, count)
			for range count - 10 { // nearly all, so that all are taken at times
				w.take()
			}
			done(t, w.j.Commit())
			w.sure = maps.Clone(w.now)
			for range 300 {
				w.step()
			}
			w.settle()
		}
	}
}
