package dir

import (
	"fmt"
	"maps"
	"math/rand"
	"slices"
	"testing"

	"ashlar/api"
)

// A plain directory is its places; "" is a free one.
type plain []api.Entry

func (p plain) at(name string) int {
	return slices.IndexFunc(p, func(x api.Entry) bool { return x.Name == name })
}

// A storm is two directories, and plain ones to which the same is done.
type storm struct {
	*site
	now, sure [2]plain
	r         *rand.Rand
	t         *testing.T
}

func (w *storm) commit() {
	done(w.t, w.j.Commit())
	for i := range w.now {
		w.sure[i] = slices.Clone(w.now[i])
	}
}

func (w *storm) back() {
	for i := range w.sure {
		w.now[i] = slices.Clone(w.sure[i])
	}
}

// told settles what a call that changes something answers.
func (w *storm) told(what string, got, want api.Errno) bool {
	if got == api.ErrFull || got == api.ErrNospc {
		w.j.Abort()
		w.back()
		return false
	}
	if got != want {
		w.t.Fatalf("%s = %d, not %d", what, got, want)
	}
	return want == api.OK
}

func (w *storm) step() {
	ino := w.r.Intn(2)
	x := api.Entry{Ino: 1 + w.r.Intn(255), Name: fmt.Sprint("n", w.r.Intn(60))}
	p := &w.now[ino]
	at := p.at(x.Name)
	want := api.ErrNoent
	if at >= 0 {
		want = api.OK
	}
	switch k := w.r.Intn(100); {
	case k < 35:
		free := p.at("")
		if want = api.ErrExist; at < 0 {
			want = api.OK
		}
		if !w.told("Add", Add(w.f, ino, x), want) {
			return
		}
		if free < 0 {
			free = len(*p)
			*p = append(*p, api.Entry{})
		}
		(*p)[free] = x
	case k < 50:
		if w.told("Point", Point(w.f, ino, x), want) {
			(*p)[at] = x
		}
	case k < 75:
		if w.told("Drop", Drop(w.f, ino, x.Name), want) {
			(*p)[at] = api.Entry{}
		}
	case k < 80:
		w.j.Abort()
		w.back()
	case k < 96:
		w.commit()
	default:
		w.crash(w.t)
		w.back()
	}
}

// settle holds both directories against the plain ones.
func (w *storm) settle() {
	for ino, p := range w.now {
		var bytes []byte
		byName := map[string]api.Entry{}
		for _, x := range p {
			if x.Name == "" {
				bytes = append(bytes, make([]byte, 32)...)
				continue
			}
			bytes = append(bytes, bytesOf(x)...)
			byName[x.Name] = x
		}
		var want []api.Entry
		for _, name := range slices.Sorted(maps.Keys(byName)) {
			want = append(want, byName[name])
			if got, e := Find(w.f, ino, name); got != byName[name].Ino || e != api.OK {
				w.t.Fatalf("Find(%d, %s) = %d, %d, not %d", ino, name, got, e, byName[name].Ino)
			}
		}
		if l, e := List(w.f, ino); !slices.Equal(l, want) || e != api.OK {
			w.t.Fatalf("List(%d) = %v, %d, not %v", ino, l, e, want)
		}
		free := p.at("")
		if free < 0 {
			free = len(p)
		}
		if got, e := Slot(w.f, ino); got != 32*free || e != api.OK {
			w.t.Fatalf("Slot(%d) = %d, %d, not %d", ino, got, e, 32*free)
		}
		for at := 0; at < len(bytes); at += 1024 {
			b, e := w.f.Read(ino, at, 1024)
			if !slices.Equal(b, bytes[at:min(at+1024, len(bytes))]) || e != api.OK {
				w.t.Fatalf("the directory %d has %x, %d at %d", ino, b, e, at)
			}
		}
	}
}

func TestStorms(t *testing.T) { // P15.2, P15.3, P15.4, P15.5
	for _, x := range []shape{small, tight, narrow, big} {
		for seed := range int64(8) {
			w := &storm{site: x.ready(t), r: rand.New(rand.NewSource(seed)), t: t}
			done(t, w.f.Set(1, api.Inode{Kind: api.KindDir, Links: 1}))
			w.commit()
			for range 300 {
				w.step()
				if w.r.Intn(5) == 0 {
					w.settle()
				}
			}
			w.settle()
		}
	}
}
