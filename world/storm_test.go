package world

import (
	"fmt"
	"maps"
	"math/rand"
	"slices"
	"strings"
	"testing"

	"ashlar/api"
	"ashlar/maint"
)

// A storm is a world and a plain one, to both of which the same is done, over disks that fail. While it is bounded, of
// each stripe one block at most is lacking.
type storm struct {
	*World
	t     *testing.T
	c     api.Conf
	r     *rand.Rand
	may   []*branch
	now   api.Status // as it was told last
	dead  map[int]struct{}
	lacks map[int]int // of a stripe, the disk whose block of it was turned, and may be bad yet
	liar  int         // the one disk that may lie about the array
	calm  bool        // no log has a record
	wild  bool        // not bounded any more
	log   []string
}

// mostSectors is the bound of a step: it takes far fewer.
const mostSectors = 20_000

// A branch is a tree as it may be (before it is wild, there is one), and what a crash may leave of it: how it was behind
// the calls from the last Sync on, that one first.
type branch struct {
	*plain
	since []*plain
}

func newStorm(t *testing.T, c api.Conf, seed int64) *storm {
	p := newPlain(c)
	w := &storm{World: ready(t, c), t: t, c: c, r: rand.New(rand.NewSource(seed)), dead: map[int]struct{}{}, lacks: map[int]int{}}
	w.may = []*branch{{p, []*plain{p.clone()}}}
	w.liar = w.r.Intn(disksOf(c))
	w.now = w.Status()
	return w
}

func (w *storm) fail(what string, args ...any) {
	w.t.Helper()
	w.t.Fatalf("%s\nbehind\n%s", fmt.Sprintf(what, args...), strings.Join(w.log[max(0, len(w.log)-60):], "\n"))
}

// do does a step in the world alone.
func (w *storm) do(s api.Step) api.Reply {
	s = junked(s, w.r)
	was := w.disks.Count()
	got := w.Do(s)
	w.log = append(w.log, show(s)+" = "+tell(got))
	if n := w.disks.Count() - was; n > mostSectors {
		w.fail("%d reads, writes and flushes", n)
	}
	if w.Mounted() {
		w.now = w.Status()
	}
	w.calm = s.Kind == api.StepTick && got.Err == api.OK
	return got
}

// must does a step that is not refused, unless the power went.
func (w *storm) must(s api.Step, want api.Reply) bool {
	w.t.Helper()
	got := w.do(s)
	if w.disks.Off() && same(got, told(api.ErrOff)) {
		return false
	}
	if !same(got, want) && !(w.wild && same(got, told(api.ErrIo))) {
		w.fail("%s: %s, not %s", show(s), tell(got), tell(want))
	}
	return got.Err == api.OK
}

// call does the same to the world and to the plain ones, of which those are left that tell the same. What is refused
// for want of power, or of blocks, is not done.
func (w *storm) call(s api.Step) {
	got := w.do(s)
	if w.disks.Off() && same(got, told(api.ErrOff)) || w.wild && same(got, told(api.ErrIo)) {
		return
	}
	var want []string
	w.may = slices.DeleteFunc(w.may, func(b *branch) bool {
		x := b.plain.do(s)
		want = append(want, tell(x))
		return !same(got, x)
	})
	if len(w.may) == 0 {
		w.fail("%s = %.300s, not %.300s", show(s), tell(got), strings.Join(want, "; or "))
	}
	for _, b := range w.may {
		if got.Err == api.OK && (s.Kind == api.StepSync || s.Kind == api.StepFsync) {
			b.since = nil
		}
		b.since = append(b.since, b.clone())
	}
}

// path leads to what there is, as a rule, or to a name next to it.
func (w *storm) path() string {
	if w.r.Intn(40) == 0 {
		return []string{"/", "", "a", "//", "/..", "/a/" + textOf(1, 28), "/" + strings.Repeat("a/", 17), "/a//b/"}[w.r.Intn(8)]
	}
	p, n := "", w.may[0].nodes[0]
	for range 4 {
		name := string(rune('a' + w.r.Intn(7)))
		if l := n.names(); len(l) > 0 && w.r.Intn(3) > 0 {
			name = l[w.r.Intn(len(l))]
		}
		p += "/" + name
		x, e := w.may[0].stat(p)
		if e != api.OK && w.r.Intn(6) > 0 || w.r.Intn(3) == 0 {
			break
		}
		if n = &(node{}); e == api.OK {
			n = w.may[0].nodes[x.Ino]
		}
	}
	return p
}

// fd is one that is open, as a rule.
func (w *storm) fd() int {
	if fds := slices.Sorted(maps.Keys(w.may[0].open)); len(fds) > 0 && w.r.Intn(20) > 0 {
		return fds[w.r.Intn(len(fds))]
	}
	return w.r.Intn(20) - 2
}

// far is a place within a file: near its beginning, around what Direct and Single name, at the greatest one, or anywhere.
func (w *storm) far() int {
	return []int{w.r.Intn(2000), 1024 + w.r.Intn(300) - 150, 5120 + w.r.Intn(300) - 150, 136192 + w.r.Intn(300) - 290, w.r.Intn(136192)}[w.r.Intn(5)]
}

// step is any of the file system's.
func (w *storm) step() api.Step {
	fd := w.fd()
	k := w.r.Intn(100)
	if len(w.may[0].open) == 0 && w.r.Intn(3) > 0 {
		k = 0
	}
	switch {
	case k < 14:
		return open(w.path(), []int{7, 7, 7, 1, 2, 15, 23, 21, 11, w.r.Intn(34)}[w.r.Intn(10)])
	case k < 19:
		return closing(fd)
	case k < 27:
		return read(fd, w.r.Intn(1100)-10)
	case k < 45:
		return write(fd, textOf(w.r.Intn(250), w.r.Intn(w.r.Intn(1030)+1)))
	case k < 55:
		return seek(fd, w.far()-w.r.Intn(2)*w.far(), w.r.Intn(3))
	case k < 60:
		return truncate(fd, w.far()+w.r.Intn(120)-60)
	case k < 66:
		return unlink(w.path())
	case k < 72:
		return mkdir(w.path())
	case k < 76:
		return rmdir(w.path())
	case k < 83:
		return link(w.path(), w.path())
	case k < 91:
		return rename(w.path(), w.path())
	case k < 94:
		return statOf(w.path())
	case k < 97:
		return listOf(w.path())
	case k < 98:
		return fsync(fd)
	}
	return sync()
}

// counts tells whether the array counts on a disk's block of a stripe.
func (w *storm) counts(disk, stripe int) bool {
	onSpare := w.now.Spare >= 0 && stripe < w.now.Mark
	switch disk {
	case w.c.Members:
		return onSpare
	case w.now.Spare:
		return !onSpare
	}
	return true
}

// lacking tells whether a block of a stripe may be lacking, but for that of one disk.
func (w *storm) lacking(stripe, but int) bool {
	for disk := range w.dead {
		if disk != but && w.counts(disk, stripe) {
			return true
		}
	}
	disk, turned := w.lacks[stripe]
	return turned && disk != but && w.counts(disk, stripe)
}

// mended forgets the blocks that are good again, surely.
func (w *storm) mended() {
	for stripe, disk := range w.lacks {
		good, e := w.Good(disk, 2+2*w.c.Logs+stripe)
		if good && e == api.OK && w.Waits(disk) == 0 || !w.counts(disk, stripe) { // the spare stands for that one
			delete(w.lacks, stripe)
		}
	}
}

// kill lets a disk die, if the array can do without it.
func (w *storm) kill() {
	w.mended()
	disk := w.r.Intn(disksOf(w.c))
	for stripe := range w.c.Stripes {
		if !w.wild && w.counts(disk, stripe) && w.lacking(stripe, disk) {
			return
		}
	}
	w.dead[disk] = struct{}{}
	w.must(kill(disk), told(api.OK))
}

// turn lets a byte turn, if the array can do without its block.
func (w *storm) turn() {
	w.mended()
	disk, at := w.r.Intn(disksOf(w.c)), w.r.Intn(128)
	_, sectors := w.disks.Size()
	sector := w.r.Intn(sectors)
	if sector%17 == 0 && w.r.Intn(2) == 0 { // sums
		at = w.r.Intn(8) + 8*w.r.Intn(4)
	}
	block := sector/17*16 + sector%17 - 1
	if sector%17 == 0 {
		block = sector/17*16 + at/8
	}
	stripe := block - 2 - 2*w.c.Logs
	_, dead := w.dead[disk]
	switch {
	case w.wild && (block < 2 || stripe >= 0), dead: // anything goes
	case block < 2:
		if disk != w.liar {
			return
		}
	case stripe < 0: // a record that turns is lost
		if !w.calm {
			return
		}
	case disk == w.c.Members && w.now.Spare >= 0 && stripe >= w.now.Mark: // a crash may have been behind a mark that is not told yet
		return
	case stripe < w.c.Stripes && w.counts(disk, stripe):
		if w.lacking(stripe, disk) {
			return
		}
		w.lacks[stripe] = disk
	}
	calm := w.calm
	if got := w.do(corrupt(disk, sector, at, byte(1+w.r.Intn(255)))); got.Err != api.OK && got.Err != api.ErrState {
		w.fail("it is not turned")
	}
	w.calm = calm
}

func filling(x api.Status) bool { return x.Spare >= 0 && x.Mark < x.Stripes }

// tick is told to be what the array wants, and goes on by one (P17.7).
func (w *storm) tick() {
	was, did := w.now, maint.Scrubbed
	if filling(was) {
		did = maint.Filled
	}
	if w.must(tick(), number(did, api.OK)) {
		want := was
		if did == maint.Filled {
			want.Mark++
		} else {
			want.Cursor = (was.Cursor + 1) % was.Stripes
		}
		if w.now.Spare != want.Spare || w.now.Mark != want.Mark || w.now.Cursor != want.Cursor {
			w.fail("the tick led from %v to %v", was, w.now)
		}
	}
}

func (w *storm) rebuild() {
	want := api.OK
	_, noSpare := w.dead[w.c.Members]
	switch {
	case filling(w.now):
	case len(w.now.Dead) == 0:
		want = api.ErrNone
	case w.now.Spare >= 0 || !w.c.Spare || noSpare:
		want = api.ErrFull
	}
	w.must(rebuild(), told(want))
}

// heal mends all that can be: bad blocks, and a dead member for which the spare may stand.
func (w *storm) heal() {
	w.rebuild()
	_, noSpare := w.dead[w.c.Members]
	for filling(w.now) && !noSpare && !w.disks.Off() {
		w.tick()
	}
	if filling(w.now) || w.disks.Off() {
		return
	}
	for range w.c.Stripes {
		w.tick()
	}
	if w.mended(); len(w.lacks) > 0 && len(w.now.Dead) == 0 && !w.disks.Off() {
		w.fail("a round of ticks has not mended %v", w.lacks)
	}
}

// happen lets something be done to the disks, or to the array. While a stripe can't be filled, as the spare is dead,
// a tick is refused: those are left out.
func (w *storm) happen() {
	_, noSpare := w.dead[w.c.Members]
	switch k := w.r.Intn(100); {
	case k < 40:
		if !filling(w.now) || !noSpare {
			w.tick()
		}
	case k < 75:
		w.turn()
	case k < 80:
		w.kill()
	case k < 88:
		w.rebuild()
	case k < 90:
		w.heal()
	}
}

// lost is a crash, which may come again while it is mounted.
func (w *storm) lost() {
	was, again := w.now, w.r.Intn(3)
	for {
		some := w.r.Intn(4)
		w.do(crash(keepOf(w.World, func(int) bool { return w.r.Intn(4) < some })...))
		for range w.r.Intn(3) {
			if w.turn(); w.r.Intn(4) == 0 {
				w.kill()
			}
		}
		if again--; again >= 0 {
			w.do(stop(w.r.Intn(80)))
		}
		if w.mounts() && !w.disks.Off() { // it may go at the last write of a Mount
			break
		}
		if w.wild && !w.disks.Off() { // what is needed is lacking
			return
		}
	}
	w.do(stop(-1))
	if !w.wild && (w.now.Spare < was.Spare || w.now.Mark < was.Mark) {
		w.fail("%v became %v", was, w.now)
	}
	w.left()
}

// mounts tells whether a Mount is not refused: it may be for want of power, of blocks, or of all disks' words.
func (w *storm) mounts() bool {
	w.t.Helper()
	for disk := range disksOf(w.c) {
		even, _ := w.Good(disk, 0)
		odd, _ := w.Good(disk, 1)
		if even && odd || !w.wild {
			return w.must(mount(), told(api.OK))
		}
	}
	return w.do(mount()).Err == api.OK
}

// left looks for the calls behind which the tree is.
func (w *storm) left() {
	if w.wild { // it can't be asked for all
		w.may = w.behind()
		return
	}
	got, since := w.image(w.t), w.may[0].since
	for _, p := range slices.Backward(since) {
		if q := p.crashed(); q.image() == got {
			w.may = []*branch{{q, []*plain{q.clone()}}}
			return
		}
	}
	w.fail("what is left is as behind none of the %d last calls:\n%.2000s", len(since), got)
}

// behind is all that a crash may have left.
func (w *storm) behind() []*branch {
	var found []*branch
	images := map[string]struct{}{}
	for _, b := range w.may {
		for _, p := range b.since {
			q := p.crashed()
			is := q.image()
			if _, has := images[is]; has {
				continue
			}
			images[is] = struct{}{}
			found = append(found, &branch{q, []*plain{q.clone()}})
		}
	}
	return found
}

// isSame closes all, and holds the trees against each other.
func (w *storm) isSame() {
	for fd := range 16 {
		w.call(closing(fd))
	}
	if got, want := w.image(w.t), w.may[0].image(); got != want {
		w.fail("the tree is\n%.2000s\nnot\n%.2000s", got, want)
	}
}

func (w *storm) run(steps int, crashes bool) {
	for range steps {
		if w.r.Intn(8) == 0 {
			w.happen()
		}
		w.call(w.step())
		switch k := w.r.Intn(150); {
		case !crashes || k > 2:
		case k < 2:
			w.do(stop(w.r.Intn(300)))
			for range w.r.Intn(60) {
				if w.r.Intn(6) == 0 {
					w.happen()
				}
				w.call(w.step())
			}
			w.lost()
		default:
			w.lost()
		}
	}
	w.isSame()
}

var confs = []api.Conf{small, middle, narrow, tight, wide}

func TestStorms(t *testing.T) { // P17.5, P17.7, P2: each call tells what the plain tree tells, whatever dies, turns, is scrubbed and rebuilt
	for i, c := range confs {
		for seed := range int64(6) {
			t.Run(fmt.Sprint(i, seed), func(t *testing.T) { newStorm(t, c, seed).run(600, false) })
		}
	}
}

func TestStormsOverCrashes(t *testing.T) { // P17.6, P17.7, P3, P4, P5: the same, and the power goes at any write of any step
	for i, c := range confs {
		for seed := range int64(10) {
			t.Run(fmt.Sprint(i, seed), func(t *testing.T) { newStorm(t, c, 100+seed).run(600, true) })
		}
	}
}

func TestStormsBeyondRepair(t *testing.T) { // P17.8, P6: whatever dies and turns, each step tells what the tree may have, or ErrIo
	for i, c := range confs {
		for seed := range int64(10) {
			t.Run(fmt.Sprint(i, seed), func(t *testing.T) {
				w := newStorm(t, c, 200+seed)
				w.run(100, true)
				w.beyond(600)
			})
		}
	}
}

// beyond lets more die and turn than the array can do without.
func (w *storm) beyond(steps int) {
	w.wild = true
	for range steps {
		switch k := w.r.Intn(100); {
		case k < 10:
			w.turn()
		case k < 11:
			w.kill()
		case k < 15:
			w.do(tick())
		case k < 17:
			w.do(rebuild())
		case k < 18:
			w.lost()
		case k < 19:
			w.do(stop(w.r.Intn(100)))
		}
		if !w.Mounted() {
			return
		}
		if w.disks.Off() {
			w.lost()
			continue
		}
		w.call(w.step())
	}
}
