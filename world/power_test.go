package world

import (
	"fmt"
	"math/rand"
	"reflect"
	"slices"
	"testing"

	"ashlar/api"
)

// room is small, but for more files.
var room = api.Conf{Members: 3, Spare: true, Stripes: 40, Logs: 1, Inodes: 8, Ring: 28, Cache: 4}

// A scene is steps that are done and synced, and those in whose middle the power goes.
type scene struct {
	what       string
	ahead, cut []api.Step
}

func scenes() []scene {
	files := []api.Step{mkdir("/d"), mkdir("/e"), open("/d/x", 7), write(0, textOf(1, 1000)), open("/y", 7), write(1, "hello"), sync()}
	turned := append(slices.Clone(files), tick(), corrupt(2, 8, 1, 1), corrupt(0, 9, 1, 1), corrupt(1, 17, 1, 1)) // blocks of other stripes each
	dead := append(slices.Clone(files), kill(1))
	filled := append(slices.Clone(dead), rebuild(), tick(), tick(), tick())
	calls := []api.Step{rename("/d/x", "/e/z"), link("/y", "/d/y"), write(0, textOf(2, 700)), mkdir("/d/f"), fsync(1), unlink("/y"), truncate(0, 900), rmdir("/d/f"), closing(0), sync()}
	cares := []api.Step{rebuild(), tick(), write(0, textOf(3, 700)), tick(), rename("/y", "/e/y"), sync(), tick(), tick()}
	return []scene{
		{"calls", files, calls},
		{"calls, with turned bytes", turned, calls},
		{"calls, with a dead member", dead, calls},
		{"calls, while the spare is filled", filled, calls},
		{"scrubs", files, cares},
		{"scrubs of turned bytes", turned, append(slices.Repeat([]api.Step{tick()}, 5), cares...)},
		{"the spare", dead, cares},
		{"the spare, on its way", filled, cares},
	}
}

// isOfTree tells whether a step is the file system's.
func isOfTree(s api.Step) bool { return s.Kind <= api.StepSync }

// calls does steps till the power goes; it tells what the tree may be behind a crash then.
func calls(t *testing.T, w *World, p *plain, steps []api.Step) []string {
	t.Helper()
	may := []string{p.crashed().image()}
	for _, s := range steps {
		got := w.Do(s)
		if w.disks.Off() && got.Err == api.ErrOff {
			return may
		}
		if !isOfTree(s) {
			if got.Err != api.OK && got.Err != api.ErrNone {
				t.Fatalf("%s: %s", show(s), tell(got))
			}
			continue
		}
		if want := p.do(s); !same(got, want) {
			t.Fatalf("%s: %s, not %s", show(s), tell(got), tell(want))
		}
		if got.Err == api.OK && (s.Kind == api.StepSync || s.Kind == api.StepFsync) {
			may = nil
		}
		may = append(may, p.crashed().image())
	}
	return may
}

// isLeft fails if a tree is none of those that may be.
func isLeft(t *testing.T, what string, w *World, may []string) {
	t.Helper()
	if got := w.image(t); !slices.Contains(may, got) {
		t.Fatalf("%s: what is left is\n%.2000s\nand may be\n%.2000s", what, got, may[len(may)-1])
	}
}

func TestCuts(t *testing.T) { // P17.6, P3: the power goes at any write of each step
	for _, sc := range scenes() {
		whole := false
		for n := 0; !whole; n += 1 + n/60 {
			w, p := ready(t, room), newPlain(room)
			calls(t, w, p, sc.ahead)
			w.Do(stop(n))
			may := calls(t, w, p, sc.cut)
			whole = !w.disks.Off()
			for _, keep := range someKeeps(w) {
				again := w.disks.Fork()
				again.Crash(keep)
				isLeft(t, fmt.Sprintf("%s, behind %d writes", sc.what, n), over(t, room, again), may)
			}
		}
	}
}

// TestCutsOfAMount: the power goes again at any write of the Mount behind a crash, and within the next one, too.
func TestCutsOfAMount(t *testing.T) { // P17.6, P3
	for i, sc := range scenes() {
		w, p := ready(t, room), newPlain(room)
		calls(t, w, p, sc.ahead)
		w.Do(stop(20 + 17*i))
		may := calls(t, w, p, sc.cut)
		for _, keep := range someKeeps(w) {
			was, whole := w.disks.Fork(), false
			was.Crash(keep)
			for n := 0; !whole; n++ {
				x := &World{disks: was.Fork(), cache: room.Cache}
				x.Do(stop(n))
				x.Do(mount())
				whole = !x.disks.Off()
				for _, keep := range someKeeps(x) {
					y := &World{disks: x.disks.Fork(), cache: room.Cache}
					play(t, y, ok(crash(keep...)), ok(stop(n/2)))
					y.Do(mount())
					play(t, y, ok(crash()), ok(mount()))
					isLeft(t, fmt.Sprintf("%s, behind %d writes of a Mount", sc.what, n), y, may)
				}
			}
		}
	}
}

// TestDeathAtACrash: a member dies ahead of the crash, or behind it (P17.6, P4).
func TestDeathAtACrash(t *testing.T) {
	all := scenes()
	for _, sc := range []scene{all[0], all[4]} { // those in which no block is lacking
		for n := 0; n < 300; n += 1 + n/30 {
			for d := range 3 {
				w, p := ready(t, room), newPlain(room)
				calls(t, w, p, sc.ahead)
				w.Do(stop(n))
				may := calls(t, w, p, sc.cut)
				for _, keep := range someKeeps(w) {
					again := w.disks.Fork()
					again.Crash(keep)
					done(t, again.Kill(d))
					x := over(t, room, again)
					what := fmt.Sprintf("behind %d writes, without the disk %d", n, d)
					isLeft(t, what, x, may)
					play(t, x, ok(rebuild()), tells(tick(), 1), ok(crash()), ok(mount()))
					isLeft(t, what+", while the spare is filled", x, may)
				}
			}
		}
	}
}

// TestTheRebuildEnds: as many ticks as there are stripes, and one for each crash, and any one member may die anew (P17.7, P5).
func TestTheRebuildEnds(t *testing.T) {
	for seed, c := range []api.Conf{small, middle, tight, wide} {
		for d := range c.Members {
			r := rand.New(rand.NewSource(int64(100*seed + d)))
			w, p := ready(t, c), newPlain(c)
			calls(t, w, p, []api.Step{mkdir("/d"), open("/x", 7), write(0, textOf(d, 1000)), sync(), kill(d), rebuild()})
			ticks, crashes := 0, 0
			for ; w.Status().Mark < c.Stripes; ticks++ {
				if ticks == c.Stripes+crashes {
					t.Fatalf("%d ticks, behind %d crashes, have filled %d stripes", ticks, crashes, w.Status().Mark)
				}
				if r.Intn(8) == 0 {
					w.Do(stop(r.Intn(30)))
				}
				if got := w.Do(tick()); got.Err == api.OK {
					calls(t, w, p, []api.Step{seek(0, r.Intn(2000), 0), write(0, textOf(ticks, r.Intn(500))), sync()})
				}
				if w.disks.Off() {
					crashes++
					play(t, w, ok(crash()), ok(mount()), tells(open("/x", 3), 0), ok(truncate(0, 0)), tells(write(0, "again"), 5), ok(sync()))
					p = p.crashed()
					for _, s := range []api.Step{open("/x", 3), truncate(0, 0), write(0, "again")} {
						p.do(s)
					}
				}
			}
			want := p.crashed().image()
			for x := range disksOf(c) {
				again := &World{disks: w.disks.Fork(), cache: c.Cache}
				play(t, again, ok(crash()), ok(kill(x)), ok(mount()))
				isLeft(t, fmt.Sprintf("the spare stands for %d, and %d died", d, x), again, []string{want})
			}
		}
	}
}

// TestScrubs: a round of ticks mends what turned; then any one member may die (P17.5, P17.7).
func TestScrubs(t *testing.T) {
	for d := range narrow.Members {
		w, p := ready(t, narrow), newPlain(narrow)
		calls(t, w, p, []api.Step{mkdir("/d"), open("/x", 7), write(0, textOf(d, 1000)), sync(), tick()})
		base := 2 + 2*narrow.Logs
		for stripe := range narrow.Stripes {
			block := base + stripe
			play(t, w, ok(corrupt((d+stripe)%5, block/16*17+1+block%16, stripe, 1)))
		}
		for stripe := range narrow.Stripes {
			if whole, e := w.Whole(stripe); whole || e != api.OK {
				t.Fatal(stripe, whole, e)
			}
		}
		for range narrow.Stripes {
			play(t, w, tells(tick(), 2))
		}
		for stripe := range narrow.Stripes {
			if whole, e := w.Whole(stripe); !whole || e != api.OK {
				t.Fatal(stripe, whole, e)
			}
		}
		play(t, w, ok(kill(d)), ok(crash()), ok(mount()))
		isLeft(t, fmt.Sprint("without the disk ", d), w, []string{p.crashed().image()})
	}
}

// TestTheSame: what a world answers, and what its disks have, hangs on the steps alone (R5).
func TestTheSame(t *testing.T) {
	for seed := range int64(3) {
		var all [][]string
		var ends [][][]string
		for range 2 {
			w := newStorm(t, middle, 300+seed)
			w.run(300, true)
			all = append(all, w.log)
			ends = append(ends, sectors(w.World))
		}
		if !slices.Equal(all[0], all[1]) || !reflect.DeepEqual(ends[0], ends[1]) {
			t.Errorf("%d: two worlds told other things", seed)
		}
	}
}
