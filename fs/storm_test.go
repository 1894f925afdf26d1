package fs

import (
	"fmt"
	"maps"
	"math/rand"
	"slices"
	"strings"
	"testing"

	"ashlar/api"
	"ashlar/maint"
	"ashlar/raid"
)

// A storm is a file system and a plain one, to both of which the same is done, over disks that fail.
type storm struct {
	*site
	p      *plain
	r      *rand.Rand
	t      *testing.T
	k      *maint.Keeper
	since  []*plain // behind the calls from the last Sync on, that ahead of them first
	bad    int      // the one disk that lacks blocks, or -1
	log    []string
	faults bool
}

func (x shape) storm(t *testing.T, seed int64, faults bool) *storm {
	w := &storm{site: x.ready(t), p: x.plain(), r: rand.New(rand.NewSource(seed)), t: t, bad: -1, faults: faults}
	w.since = []*plain{w.p.clone()}
	w.keep()
	return w
}

func (w *storm) keep() {
	var e api.Errno
	w.k, e = maint.New(w.v)
	done(w.t, e)
}

func (w *storm) fail(what string, args ...any) {
	w.t.Helper()
	w.t.Fatalf("%s\nbehind\n%s", fmt.Sprintf(what, args...), strings.Join(w.log[max(0, len(w.log)-40):], "\n"))
}

// path leads to what there is, as a rule, or to a name next to it.
func (w *storm) path() string {
	if w.r.Intn(40) == 0 {
		return []string{"/", "", "a", "//", "/..", "/a/" + text(1, 28), "/" + strings.Repeat("a/", 17), "/a//b/"}[w.r.Intn(8)]
	}
	p, n := "", w.p.nodes[0]
	for range 4 {
		name := string(rune('a' + w.r.Intn(7)))
		if l := n.names(); len(l) > 0 && w.r.Intn(3) > 0 {
			name = l[w.r.Intn(len(l))]
		}
		p += "/" + name
		i := n.at(name)
		if i < 0 && w.r.Intn(6) > 0 || w.r.Intn(3) == 0 {
			break
		}
		if n = &(node{}); i >= 0 {
			n, _ = w.p.named(p)
		}
	}
	return p
}

// fd is one that is open, as a rule.
func (w *storm) fd() int {
	if fds := slices.Sorted(maps.Keys(w.p.open)); len(fds) > 0 && w.r.Intn(20) > 0 {
		return fds[w.r.Intn(len(fds))]
	}
	return w.r.Intn(20) - 2
}

// far is a place within a file: near its beginning, around what Direct and Single name, at the greatest one, or anywhere.
func (w *storm) far() int {
	switch w.r.Intn(5) {
	case 0:
		return w.r.Intn(2000)
	case 1:
		return 1024 + w.r.Intn(300) - 150
	case 2:
		return 5120 + w.r.Intn(300) - 150
	case 3:
		return 136192 + w.r.Intn(300) - 290
	}
	return w.r.Intn(136192)
}

// op is any call.
func (w *storm) op() op {
	fd := w.fd()
	k := w.r.Intn(100)
	if len(w.p.open) == 0 && w.r.Intn(3) > 0 {
		k = 0
	}
	switch {
	case k < 14:
		return open(w.path(), []int{7, 7, 7, 1, 2, 15, 23, 21, 11, w.r.Intn(34)}[w.r.Intn(10)])
	case k < 19:
		return closing(fd)
	case k < 26:
		return read(fd, w.r.Intn(1100)-10)
	case k < 44:
		return write(fd, text(w.r.Intn(250), w.r.Intn(w.r.Intn(1030)+1)))
	case k < 54:
		return seek(fd, w.far()-w.r.Intn(2)*w.far(), w.r.Intn(3))
	case k < 59:
		return truncate(fd, w.far()+w.r.Intn(120)-60)
	case k < 65:
		return unlink(w.path())
	case k < 71:
		return mkdir(w.path())
	case k < 75:
		return rmdir(w.path())
	case k < 83:
		return link(w.path(), w.path())
	case k < 91:
		return rename(w.path(), w.path())
	case k < 93:
		return stat(w.path())
	case k < 95:
		return list(w.path())
	case k < 97:
		return space()
	case k < 98:
		return fsync(fd)
	}
	return sync()
}

// call does the same to both, and holds the answers against each other: but what the power's end refuses is not done.
func (w *storm) call(x op) {
	got := x.do(w.f)
	w.log = append(w.log, x.what+" = "+got)
	if w.s.Off() && strings.HasSuffix(got, ofError(api.ErrOff)) {
		return
	}
	if want := x.do(w.p); got != want {
		w.fail("%s = %.300s, not %.300s", x.what, got, want)
	}
	if (strings.HasPrefix(x.what, "Sync") || strings.HasPrefix(x.what, "Fsync")) && got == ofError(api.OK) {
		w.since = nil
	}
	w.since = append(w.since, w.p.clone())
}

// lost is a crash, which may come again while the array is opened, or mounted.
func (w *storm) lost() {
	again := w.r.Intn(3)
	for {
		some := w.r.Intn(4)
		w.s.Crash(keepOf(w.s, func(int) bool { return w.r.Intn(4) < some }))
		w.log = append(w.log, "crash")
		if w.faults && w.r.Intn(4) == 0 {
			w.kill()
		}
		if again--; again >= 0 {
			w.s.Stop(w.r.Intn(60))
		}
		if w.mounted() && !w.s.Off() { // it may go at the last write of a Mount
			break
		}
	}
	w.s.Stop(-1)
	w.keep()
	w.isOne()
	w.sound(w.t)
}

// mounted mounts anew; false: the power went.
func (w *storm) mounted() bool {
	v, e := raid.Open(w.s)
	if e == api.OK {
		var f *FS
		if f, e = Mount(v, w.most); e == api.OK {
			w.v, w.f = v, f
			return true
		}
	}
	if e != api.ErrOff || !w.s.Off() {
		w.fail("behind a crash: error %d", e)
	}
	return false
}

// isOne looks for the call behind which the tree is.
func (w *storm) isOne() {
	got := w.image(w.t)
	for i := len(w.since) - 1; i >= 0; i-- {
		if p := w.since[i].crashed(); p.image() == got {
			w.p = p
			w.since = []*plain{p.clone()}
			return
		}
	}
	w.fail("what is left is as behind none of the %d last calls:\n%.2000s", len(w.since), got)
}

// kill lets the disk die that lacks blocks, or one that an array without such a disk counts on.
func (w *storm) kill() {
	if w.bad < 0 {
		w.bad = w.r.Intn(w.members)
		if now := w.v.Status(); now.Spare >= 0 && w.r.Intn(3) == 0 {
			w.bad = w.members
		}
	}
	w.log = append(w.log, fmt.Sprint("kill ", w.bad))
	done(w.t, w.s.Kill(w.bad))
}

// turn lets a byte of a disk turn, unless another one lacks blocks.
func (w *storm) turn() {
	if w.bad < 0 {
		w.bad = w.r.Intn(w.members)
	}
	_, sectors := w.s.Size()
	if e := w.s.Corrupt(w.bad, w.r.Intn(sectors), w.r.Intn(128), byte(1+w.r.Intn(255))); e != api.ErrState {
		w.log = append(w.log, fmt.Sprint("turn ", w.bad))
		done(w.t, e)
	}
}

// heal mends all that can be: bad blocks, and a dead member for which the spare may stand.
func (w *storm) heal() {
	if e := w.k.Begin(); e != api.OK && e != api.ErrNone && e != api.ErrFull {
		w.fail("Begin: %d", e)
	}
	for range w.k.Left() + w.stripes {
		if _, e := w.k.Tick(); e != api.OK {
			w.fail("Tick: %d", e)
		}
	}
	w.log = append(w.log, "heal")
	if len(w.k.Status().Dead) == 0 {
		w.bad = -1
	}
}

func (w *storm) happen() {
	switch k := w.r.Intn(100); {
	case k < 40:
		if _, e := w.k.Tick(); e != api.OK {
			w.fail("Tick: %d", e)
		}
	case k < 55:
		if w.bad < 0 || !w.s.Dead(w.bad) {
			w.turn()
		}
	case k < 60:
		w.kill()
	case k < 65:
		if e := w.k.Begin(); e != api.OK && e != api.ErrNone && e != api.ErrFull {
			w.fail("Begin: %d", e)
		}
	case k < 70:
		w.heal()
	}
}

func (w *storm) run(steps int) {
	for i := range steps {
		if w.faults && w.r.Intn(10) == 0 {
			w.happen()
		}
		w.call(w.op())
		switch w.r.Intn(200) {
		case 0, 1:
			w.s.Stop(w.r.Intn(200))
			for range 30 {
				w.call(w.op())
			}
			w.lost()
		case 2:
			w.lost()
		}
		if i%50 == 0 && !w.s.Off() {
			sameImage(w.t, "the tree", w.image(w.t), w.p.image())
		}
	}
	sameImage(w.t, "the tree", w.image(w.t), w.p.image())
	w.sound(w.t)
}

var shapes = []shape{small, middle, narrow, tight, wide}

func TestStorms(t *testing.T) { // P16.3 to P16.8, P3: each call tells what a plain tree tells, and a crash leaves a beginning
	for i, x := range shapes {
		for seed := range int64(6) {
			t.Run(fmt.Sprint(i, seed), func(t *testing.T) { x.storm(t, seed, false).run(600) })
		}
	}
}

func TestStormsOverFaults(t *testing.T) { // P2, P3, P4, P5: while of each stripe one block at most is lacking
	for i, x := range shapes {
		x.spare = 1
		for seed := range int64(8) {
			t.Run(fmt.Sprint(i, seed), func(t *testing.T) { x.storm(t, 100+seed, true).run(500) })
		}
	}
}

func TestStormsBeyondRepair(t *testing.T) { // P6, P16.1, P16.6: with two disks dead a call tells what the tree has, or ErrIo, and changes nothing then
	for i, x := range shapes {
		for seed := range int64(6) {
			t.Run(fmt.Sprint(i, seed), func(t *testing.T) {
				w := x.storm(t, 200+seed, false)
				w.run(150)
				w.beyond(250)
			})
		}
	}
}

// beyond lets more die than the array can do without.
func (w *storm) beyond(steps int) {
	refused := 0
	_, sectors := w.s.Size()
	for i := range steps {
		switch {
		case i == 0 || i == steps/2:
			done(w.t, w.s.Kill(w.r.Intn(w.members)))
		case w.r.Intn(3) == 0:
			w.s.Corrupt(w.r.Intn(w.members), w.r.Intn(sectors), w.r.Intn(128), byte(1+w.r.Intn(255)))
		}
		x := w.op()
		got := x.do(w.f)
		w.log = append(w.log, x.what+" = "+got)
		if strings.HasSuffix(got, ofError(api.ErrIo)) {
			refused++
			continue
		}
		if want := x.do(w.p); got != want {
			w.fail("%s = %.300s, not %.300s", x.what, got, want)
		}
	}
	if refused == 0 {
		w.t.Log("nothing was refused")
	}
}
