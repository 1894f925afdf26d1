package world

import (
	"fmt"
	"math"
	"math/rand"
	"reflect"
	"slices"
	"strings"
	"testing"

	"ashlar/api"
	"ashlar/sums"
)

func TestSectors(t *testing.T) { // P17.1
	for _, x := range []struct{ stripes, logs, want int }{
		{1, 1, 6}, {11, 1, 16}, {12, 1, 17}, {13, 1, 19}, {40, 1, 47}, {28, 1, 34}, {29, 1, 36}, {1024, 8, 1108}, {1024, 1, 1093}, {1, 8, 21},
	} {
		if got, e := Sectors(x.stripes, x.logs); got != x.want || e != api.OK {
			t.Errorf("Sectors(%d, %d) = %d, %d, not %d", x.stripes, x.logs, got, e, x.want)
		}
	}
	for _, x := range [][2]int{{0, 1}, {-1, 1}, {1025, 1}, {1, 0}, {1, 9}, {1, -1}, {math.MinInt, 1}, {math.MaxInt, 8}, {5, math.MaxInt}, {5, math.MinInt}} {
		if got, e := Sectors(x[0], x[1]); got != 0 || e != api.ErrArg {
			t.Errorf("Sectors(%d, %d) = %d, %d", x[0], x[1], got, e)
		}
	}
	for stripes := 1; stripes <= 1024; stripes++ {
		for logs := 1; logs <= 8; logs++ {
			got, _ := Sectors(stripes, logs)
			if need := 2 + 2*logs + stripes; sums.Blocks(got) != need {
				t.Errorf("Sectors(%d, %d) = %d: %d blocks, not %d", stripes, logs, got, sums.Blocks(got), need)
			}
		}
	}
}

func TestNewRefuses(t *testing.T) { // P17.1
	for i, spoil := range []func(c *api.Conf){
		func(c *api.Conf) { c.Members = 2 }, func(c *api.Conf) { c.Members = 17 }, func(c *api.Conf) { c.Members = 0 }, func(c *api.Conf) { c.Members = -1 },
		func(c *api.Conf) { c.Members = math.MaxInt }, func(c *api.Conf) { c.Members = math.MinInt }, func(c *api.Conf) { c.Members, c.Spare = 17, false },
		func(c *api.Conf) { c.Stripes = 0 }, func(c *api.Conf) { c.Stripes = -40 }, func(c *api.Conf) { c.Stripes = 1025 }, func(c *api.Conf) { c.Stripes = math.MaxInt },
		func(c *api.Conf) { c.Logs = 0 }, func(c *api.Conf) { c.Logs = 9 }, func(c *api.Conf) { c.Logs = math.MinInt },
		func(c *api.Conf) { c.Cache = 0 }, func(c *api.Conf) { c.Cache = 1025 }, func(c *api.Conf) { c.Cache = -1 },
		func(c *api.Conf) { c.Inodes = 1 }, func(c *api.Conf) { c.Inodes = 257 }, func(c *api.Conf) { c.Inodes = -4 },
		func(c *api.Conf) { c.Ring = 27 }, func(c *api.Conf) { c.Ring = 76 }, func(c *api.Conf) { c.Ring = 81 }, func(c *api.Conf) { c.Ring = math.MaxInt },
		func(c *api.Conf) { c.Stripes = 16 }, // 32 blocks: without one for the files
		func(c *api.Conf) { *c = api.Conf{} },
	} {
		c := small
		spoil(&c)
		if w, e := New(c); w != nil || e != api.ErrArg {
			t.Errorf("%d: New(%v): error %d", i, c, e)
		}
	}
}

func TestNew(t *testing.T) { // P17.1
	for i, c := range []api.Conf{
		small, middle, narrow, tight, wide,
		{Members: 3, Stripes: 40, Logs: 8, Inodes: 4, Ring: 75, Cache: 1}, // one block is left
		{Members: 16, Spare: true, Stripes: 3, Logs: 1, Inodes: 2, Ring: 28, Cache: 1024},
		{Members: 16, Stripes: 1024, Logs: 8, Inodes: 256, Ring: 28, Cache: 9},
		{Members: 3, Spare: true, Stripes: 17, Logs: 1, Inodes: 2, Ring: 28, Cache: 2},
	} {
		w, e := New(c)
		if e != api.OK {
			t.Fatalf("%d: error %d", i, e)
		}
		disks, count := w.disks.Size()
		if need, _ := Sectors(c.Stripes, c.Logs); disks != disksOf(c) || count != need {
			t.Errorf("%d: %d disks of %d sectors", i, disks, count)
		}
		want := api.Status{Members: c.Members, Stripes: c.Stripes, Spare: -1}
		if got := w.Status(); !reflect.DeepEqual(got, want) {
			t.Errorf("%d: %v", i, got)
		}
		if !w.Mounted() {
			t.Errorf("%d: nothing is mounted", i)
		}
		if got, want := w.image(t), newPlain(c).image(); got != want {
			t.Errorf("%d: %s, not %s", i, got, want)
		}
		for d := range disks {
			if w.Waits(d) != 0 {
				t.Errorf("%d: %d writes of the disk %d wait", i, w.Waits(d), d)
			}
		}
		play(t, w, ok(mkdir("/d")), ok(sync()), ok(crash()), ok(mount()), names(listOf("/"), "d"))
	}
}

// TestCache: a file system keeps as many blocks as Cache tells, also behind a crash (P17.1, P17.3).
func TestCache(t *testing.T) {
	for _, most := range []int{1, 2, 1024} {
		c := small
		c.Cache = most
		w, e := New(c)
		done(t, e)
		costs := func() int {
			was := w.disks.Count()
			w.Space()
			w.Do(statOf("/"))
			return w.disks.Count() - was
		}
		for range 2 {
			costs()
			if n := costs(); (n == 0) != (most > 1) { // a block of the bits, and one of the table
				t.Errorf("with a cache of %d, %d sectors were read", most, n)
			}
			play(t, w, ok(crash()), ok(mount()))
		}
	}
}

func TestNone(t *testing.T) { // P17.4, P1: a World that is nil, or one that New did not make
	for _, w := range []*World{nil, {}} {
		for kind := -1; kind < 30; kind++ {
			play(t, w, no(api.Step{Kind: kind, Path: "/", To: "/x", Data: "x", Keep: [][]int{{0}}}, api.ErrClosed))
		}
		if w.Mounted() || !reflect.DeepEqual(w.Status(), api.Status{}) || w.Waits(0) != 0 {
			t.Error("there is something")
		}
		if n, e := w.Space(); n != 0 || e != api.ErrClosed {
			t.Error("Space:", n, e)
		}
		for _, x := range []int{-1, 0, 99} {
			if is, e := w.Whole(x); is || e != api.ErrClosed {
				t.Error("Whole:", is, e)
			}
			if is, e := w.Good(x, x); is || e != api.ErrClosed {
				t.Error("Good:", is, e)
			}
		}
	}
}

func TestStepsOfTheTree(t *testing.T) { // P17.2: each kind, its fields, what it answers, and an error of it
	w := ready(t, middle)
	long := textOf(1, 1024)
	play(t, w,
		names(listOf("/")), ok(mkdir("/d")), no(mkdir("/d"), api.ErrExist), no(mkdir(""), api.ErrInval),
		tells(open("/f", 7), 0), tells(open("/d/g", 2|4|16), 1), no(open("/f", 23), api.ErrExist), no(open("/g", 3), api.ErrNoent), no(open("/f", 0), api.ErrInval),
		tells(open("/f", 1), 2),
		tells(write(0, "hello"), 5), tells(write(0, ""), 0), tells(write(1, long), 1024), no(write(2, "x"), api.ErrBadf), no(write(0, long+"x"), api.ErrInval),
		no(write(-1, "x"), api.ErrBadf), no(write(16, "x"), api.ErrBadf),
		reads(read(2, 3), "hel"), reads(read(2, 9), "lo"), reads(read(2, 9), ""), no(read(1, 1), api.ErrBadf), no(read(2, 1025), api.ErrInval), no(read(2, -1), api.ErrInval),
		tells(seek(2, 1, 0), 1), tells(seek(2, 2, 1), 3), tells(seek(2, -4, 2), 1), no(seek(2, 0, 3), api.ErrInval), no(seek(9, 0, 0), api.ErrBadf),
		reads(read(2, 2), "el"),
		ok(truncate(0, 2)), no(truncate(2, 0), api.ErrBadf), no(truncate(0, -1), api.ErrInval), no(truncate(0, 136193), api.ErrFbig),
		tells(seek(2, 0, 0), 0), reads(read(2, 1024), "he"),
		happening{statOf("/f"), api.Reply{Stat: api.Stat{Ino: 2, Kind: 1, Links: 1, Size: 2}}},
		happening{statOf("/"), api.Reply{Stat: api.Stat{Ino: 0, Kind: 2, Links: 1, Size: 64}}},
		no(statOf("/none"), api.ErrNoent), no(statOf("/f/x"), api.ErrNotdir), no(listOf("/f"), api.ErrNotdir),
		ok(link("/f", "/d/l")), no(link("/d", "/x"), api.ErrIsdir), no(link("/f", "/d"), api.ErrExist),
		ok(rename("/f", "/e")), no(rename("/d", "/d/x"), api.ErrInval), no(rename("/none", "/x"), api.ErrNoent),
		names(listOf("/"), "d", "e"), names(listOf("/d"), "g", "l"),
		no(rmdir("/d"), api.ErrNotempty), no(unlink("/d"), api.ErrIsdir), ok(unlink("/d/l")), ok(unlink("/d/g")), ok(rmdir("/d")),
		no(rmdir("/d"), api.ErrNoent), names(listOf("/"), "e"),
		ok(closing(1)), no(closing(1), api.ErrBadf), tells(open("/e", 3), 1), ok(fsync(1)), no(fsync(5), api.ErrBadf), ok(sync()),
		ok(crash()), ok(mount()), names(listOf("/"), "e"), no(closing(0), api.ErrBadf), // all are closed
		tells(open("/e", 1), 0), reads(read(0, 9), "he"),
	)
}

func TestStepsOfTheKeeper(t *testing.T) { // P17.2: Tick, Rebuild; P17.4: Status
	w := ready(t, small)
	status := func(dead []int, spare, mark, cursor int) {
		t.Helper()
		want := api.Status{Members: 3, Stripes: 40, Dead: dead, Spare: spare, Mark: mark, Cursor: cursor}
		got := w.Status()
		if !slices.Equal(got.Dead, dead) {
			t.Fatalf("dead: %v, not %v", got.Dead, dead)
		}
		if got.Dead, want.Dead = nil, nil; !reflect.DeepEqual(got, want) {
			t.Fatalf("%v, not %v", got, want)
		}
	}
	play(t, w, no(rebuild(), api.ErrNone), tells(tick(), 2), tells(tick(), 2))
	status(nil, -1, 0, 2)
	play(t, w, ok(kill(1)), tells(tick(), 2))
	status([]int{1}, -1, 0, 3)
	play(t, w, ok(rebuild()), ok(rebuild()), tells(tick(), 1), ok(rebuild()))
	status([]int{1}, 1, 1, 3)
	play(t, w, ok(crash()), ok(mount()), tells(tick(), 1))
	status([]int{1}, 1, 2, 3)
	for range 38 {
		play(t, w, tells(tick(), 1))
	}
	status(nil, 1, 40, 3)
	play(t, w, no(rebuild(), api.ErrNone), tells(tick(), 2), ok(kill(0)), no(rebuild(), api.ErrFull))
	status([]int{0}, 1, 40, 4)
	w.Status().Dead[0] = 9 // it is the caller's own
	status([]int{0}, 1, 40, 4)
	play(t, w, ok(kill(2)), tells(tick(), 2), ok(crash()))
	if got := w.Status(); !reflect.DeepEqual(got, api.Status{}) {
		t.Error(got)
	}
	w = ready(t, narrow)
	play(t, w, ok(kill(4)), no(rebuild(), api.ErrFull))
	w = ready(t, small)
	play(t, w, ok(kill(3)), ok(kill(0)), no(rebuild(), api.ErrFull)) // the spare is dead
}

// TestTickRefused: what a Tick refuses tells no number (P17.2, R2).
func TestTickRefused(t *testing.T) {
	w := ready(t, small)
	play(t, w, ok(kill(1)), ok(rebuild()), ok(kill(2)), no(tick(), api.ErrIo), ok(stop(0)), no(tick(), api.ErrOff))
	w = ready(t, small)
	play(t, w, ok(stop(0)), no(tick(), api.ErrOff), ok(crash()), ok(mount()), ok(kill(1)), ok(stop(1)), no(rebuild(), api.ErrOff))
}

// kinds is a step of each kind that needs what is mounted.
func kinds() []api.Step {
	return []api.Step{
		open("/x", 7), closing(0), read(0, 1), write(0, "x"), seek(0, 0, 0), truncate(0, 1), unlink("/x"), mkdir("/d"), rmdir("/d"), rename("/x", "/y"), link("/x", "/y"),
		statOf("/"), listOf("/"), fsync(0), sync(), tick(), rebuild(),
	}
}

func TestNotMounted(t *testing.T) { // P17.2, P17.3, P17.4
	w := ready(t, small)
	play(t, w, tells(open("/x", 7), 0), ok(sync()), no(mount(), api.ErrState))
	if !w.Mounted() {
		t.Error("it is not mounted")
	}
	unmounted := func() {
		t.Helper()
		for _, s := range kinds() {
			play(t, w, no(s, api.ErrState))
		}
		if w.Mounted() || !reflect.DeepEqual(w.Status(), api.Status{}) {
			t.Error("it is mounted")
		}
		if n, e := w.Space(); n != 0 || e != api.ErrState {
			t.Error("Space:", n, e)
		}
		for _, stripe := range []int{-1, 0, 99} {
			if is, e := w.Whole(stripe); is || e != api.ErrState {
				t.Error("Whole:", is, e)
			}
		}
		if is, e := w.Good(0, 0); !is || e != api.OK {
			t.Error("Good:", is, e)
		}
	}
	play(t, w, ok(crash()))
	unmounted()
	play(t, w, ok(crash()), ok(kill(2)), tells(count(), w.disks.Count()), ok(corrupt(2, 3, 4, 5)), ok(stop(1)), no(mount(), api.ErrOff), no(mount(), api.ErrOff), ok(crash()))
	unmounted()
	play(t, w, ok(mount()), no(mount(), api.ErrState), names(listOf("/"), "x"))
}

func TestKinds(t *testing.T) { // P17.3: of another Kind: ErrArg, whether it is mounted or not
	w := ready(t, small)
	for range 2 {
		was := sectors(w)
		for _, kind := range []int{0, 24, 25, 99, -1, -18, math.MinInt, math.MaxInt} {
			play(t, w, no(api.Step{Kind: kind, Path: "/x", To: "/y", N: 7, Data: "x", Keep: [][]int{{0}}}, api.ErrArg))
		}
		if !reflect.DeepEqual(was, sectors(w)) {
			t.Error("something has changed")
		}
		play(t, w, ok(crash()))
	}
}

// TestMount: what the array, and the file system, refuse (P17.3).
func TestMount(t *testing.T) {
	for i, x := range []struct {
		spoil func(w *World)
		want  api.Errno
	}{
		{func(w *World) {}, api.OK},
		{func(w *World) { w.disks.Stop(0) }, api.ErrOff},
		{func(w *World) { w.disks.Stop(2) }, api.ErrOff},
		{func(w *World) { // no disk says what the array is
			for d := range 4 {
				w.disks.Corrupt(d, 1, 5, 1)
				w.disks.Corrupt(d, 2, 5, 1)
			}
		}, api.ErrCode},
		{func(w *World) { // the label stands in the stripe 0
			w.disks.Corrupt(0, 5, 0, 1)
			w.disks.Corrupt(1, 5, 0, 1)
		}, api.ErrIo},
		{func(w *World) {
			w.disks.Kill(0)
			w.disks.Kill(1)
		}, api.ErrIo},
		{func(w *World) { w.disks.Kill(0) }, api.OK},
	} {
		w := ready(t, small)
		play(t, w, ok(crash()))
		x.spoil(w)
		want := x.want
		if got := w.Do(mount()); !same(got, api.Reply{Err: want}) {
			t.Errorf("%d: %s", i, tell(got))
		}
		if w.Mounted() != (want == api.OK) {
			t.Errorf("%d: mounted: %v", i, w.Mounted())
		}
		if want == api.ErrOff {
			play(t, w, ok(crash()), ok(mount()))
		}
	}
	w := ready(t, small) // a label that is another one's
	v := w.site.keeper.Volume
	b, e := v.Read(0)
	done(t, e)
	b[0]++
	done(t, v.Write(0, b))
	done(t, v.Flush())
	play(t, w, ok(crash()), no(mount(), api.ErrInval), no(listOf("/"), api.ErrState), no(mount(), api.ErrInval))
}

// TestNewKeeper: behind a crash there is another one (P17.3).
func TestNewKeeper(t *testing.T) {
	w := ready(t, small)
	play(t, w, ok(corrupt(0, 5, 0, 1)), tells(tick(), 2))
	if got := w.site.keeper.Mended(); got != 1 {
		t.Errorf("%d blocks were mended", got)
	}
	play(t, w, ok(crash()), ok(mount()))
	if got := w.site.keeper.Mended(); got != 0 || !math.IsNaN(w.site.keeper.Often()) {
		t.Errorf("%d blocks were mended", got)
	}
}

func TestStop(t *testing.T) { // P17.3
	w := ready(t, small)
	play(t, w, ok(stop(-1)), ok(mkdir("/a")), ok(sync()), ok(stop(3)), ok(stop(-7)), ok(mkdir("/b")), ok(sync()))
	play(t, w, ok(stop(0)), ok(stop(5)), ok(mkdir("/c")), no(sync(), api.ErrOff), ok(crash()), ok(mount()), names(listOf("/"), "a", "b"))
	for n := range 9 {
		was := w.disks.Fork()
		play(t, w, ok(mkdir("/c")), ok(stop(n)), no(sync(), api.ErrOff))
		if !w.disks.Off() {
			t.Error("the power is on")
		}
		w = over(t, small, was)
	}
}

// TestCrash: those writes are kept that Keep names (P17.3).
func TestCrash(t *testing.T) {
	for seed, keep := range [][][]int{nil, {}, {{0}, {1}}, {nil, nil, {0, 1, 2, 3, 4}}, {{5, -1, 0, 0, 99}, {}, {1}, {0}, {7}, {0}}} {
		w := ready(t, small)
		var waiting *World
		for n := 20; waiting == nil; n++ { // where something waits
			x := &World{disks: w.disks.Fork(), cache: 4}
			play(t, x, ok(mount()), tells(open("/x", 7), 0), tells(write(0, textOf(seed, 1000)), 1000), ok(stop(n)), no(sync(), api.ErrOff))
			if x.Waits(0)+x.Waits(1) > 2 && x.Waits(2) > 0 {
				waiting = x
			}
		}
		want := waiting.disks.Fork()
		want.Crash(keep)
		was := fmt.Sprint(keep)
		play(t, waiting, ok(api.Step{Kind: api.StepCrash, Keep: keep}))
		if got := fmt.Sprint(keep); got != was {
			t.Errorf("Keep was %s, and is %s", was, got)
		}
		if !reflect.DeepEqual(sectors(waiting), sectors(&World{disks: want})) {
			t.Errorf("Keep %v: other writes were kept", keep)
		}
		if waiting.Waits(0)+waiting.Waits(1)+waiting.Waits(2) != 0 {
			t.Error("something waits yet")
		}
	}
}

func TestKill(t *testing.T) { // P17.3
	w := ready(t, small)
	for _, d := range []int{-1, 4, 17, math.MinInt, math.MaxInt} {
		play(t, w, no(kill(d), api.ErrArg))
	}
	play(t, w, ok(stop(0)), ok(kill(3)), ok(kill(3)), ok(crash()), ok(kill(2)), ok(mount()))
	if got := w.Status().Dead; !slices.Equal(got, []int{2}) {
		t.Error(got)
	}
	play(t, ready(t, narrow), no(kill(5), api.ErrArg), ok(kill(4)))
}

func TestCorrupt(t *testing.T) { // P17.3: the disk N, the sector At, the byte Fd, by what Data has
	w := ready(t, small)
	_, count := w.disks.Size()
	for _, s := range []api.Step{
		corrupt(-1, 0, 0, 1), corrupt(4, 0, 0, 1), corrupt(0, -1, 0, 1), corrupt(0, count, 0, 1), corrupt(0, 0, -1, 1), corrupt(0, 0, 128, 1),
		{Kind: api.StepCorrupt}, {Kind: api.StepCorrupt, Data: "ab"}, {Kind: api.StepCorrupt, Data: textOf(1, 5000)}, {Kind: api.StepCorrupt, N: -1, Data: "ab"},
	} {
		was := sectors(w)
		play(t, w, no(s, api.ErrArg))
		if !reflect.DeepEqual(was, sectors(w)) {
			t.Errorf("%s changed something", show(s))
		}
	}
	for _, x := range []struct{ d, sector, at, with int }{{0, 0, 0, 1}, {3, count - 1, 127, 255}, {1, 7, 9, 0}, {2, 8, 100, 128}} {
		want, e := w.disks.Read(x.d, x.sector)
		done(t, e)
		want[x.at] ^= byte(x.with)
		play(t, w, ok(corrupt(x.d, x.sector, x.at, byte(x.with))))
		if got, _ := w.disks.Read(x.d, x.sector); !slices.Equal(got, want) {
			t.Errorf("%v: %v, not %v", x, got, want)
		}
	}
	play(t, w, ok(crash()), ok(corrupt(0, 5, 5, 5)), ok(stop(0)), ok(corrupt(0, 5, 5, 5)), ok(kill(0)), ok(corrupt(0, 5, 5, 5)))
}

// TestCorruptOfWhatWaits: a sector of which a write waits can't be turned (P17.3).
func TestCorruptOfWhatWaits(t *testing.T) {
	w := ready(t, narrow)
	_, count := w.disks.Size()
	refused := 0
	play(t, w, tells(open("/x", 7), 0), tells(write(0, textOf(3, 1024)), 1024), ok(sync()))
	for d := range narrow.Members {
		waits := 0
		for sector := range count {
			want := w.disks.Fork().Corrupt(d, sector, 3, 9)
			play(t, w, no(corrupt(d, sector, 3, 9), want))
			if want == api.ErrState {
				waits++
				refused++
			}
		}
		if waits > w.Waits(d) {
			t.Errorf("%d sectors of the disk %d wait, of %d writes", waits, d, w.Waits(d))
		}
	}
	if refused == 0 {
		t.Error("nothing waits")
	}
}

func TestCount(t *testing.T) { // P17.3
	w := ready(t, small)
	for range 3 {
		n := w.disks.Count()
		play(t, w, tells(count(), n), tells(count(), n))
		b := w.Do(tick())
		if m := w.Do(count()).N; b.Err != api.OK || m <= n || m != w.disks.Count() {
			t.Errorf("%d, and then %d", n, m)
		}
	}
	was := w.disks.Count()
	w.Good(0, 0)
	play(t, w, tells(count(), was+2), ok(stop(0)), tells(count(), was+2), ok(crash()), tells(count(), was+2))
	w.Good(0, -1)
	play(t, w, tells(count(), was+2))
}

func TestGood(t *testing.T) { // P17.4
	w := ready(t, small)
	good := func(d, block int, want bool, e api.Errno) {
		t.Helper()
		if got, is := w.Good(d, block); got != want || is != e {
			t.Errorf("Good(%d, %d) = %v, %d, not %v, %d", d, block, got, is, want, e)
		}
	}
	for d := range 4 {
		for block := range 44 {
			good(d, block, true, api.OK)
		}
		good(d, 44, false, api.ErrArg)
		good(d, -1, false, api.ErrArg)
		for _, block := range []int{math.MinInt, math.MaxInt, 256 + 5, 1024 + 5, 4096 + 5, 1<<32 + 5} {
			good(d, block, false, api.ErrArg)
		}
	}
	for _, d := range []int{-1, 4, math.MinInt, math.MaxInt} {
		good(d, 0, false, api.ErrArg)
	}
	for _, block := range []int{0, 1, 3, 4, 20, 43} {
		_, at, _ := sums.Place(block)
		play(t, w, ok(corrupt(1, at, 77, 4)))
		good(1, block, false, api.OK)
		good(0, block, true, api.OK)
		play(t, w, ok(corrupt(1, at, 77, 4)))
		good(1, block, true, api.OK)
	}
	play(t, w, ok(kill(2)))
	good(2, 7, false, api.ErrDead)
	good(2, 44, false, api.ErrArg)
	play(t, w, ok(crash()), ok(corrupt(1, 6, 0, 1)))
	good(1, 5, false, api.OK)
	good(0, 5, true, api.OK)
	play(t, w, ok(stop(0)))
	good(1, 5, false, api.ErrOff)
	good(2, 5, false, api.ErrOff)
	good(4, 5, false, api.ErrArg)
	good(1, 99, false, api.ErrArg)
}

func TestWhole(t *testing.T) { // P17.4
	w := ready(t, small)
	whole := func(stripe int, want bool, e api.Errno) {
		t.Helper()
		if got, is := w.Whole(stripe); got != want || is != e {
			t.Errorf("Whole(%d) = %v, %d, not %v, %d", stripe, got, is, want, e)
		}
	}
	for stripe := range 40 {
		whole(stripe, true, api.OK)
	}
	for _, stripe := range []int{-1, 40, math.MinInt, math.MaxInt} {
		whole(stripe, false, api.ErrArg)
	}
	_, at, _ := sums.Place(4 + 7) // of the stripe 7
	play(t, w, ok(corrupt(2, at, 0, 1)))
	whole(7, false, api.OK)
	whole(6, true, api.OK)
	for range 8 {
		play(t, w, tells(tick(), 2))
	}
	whole(7, true, api.OK)
	play(t, w, ok(kill(0)))
	whole(7, false, api.OK)
	play(t, w, ok(rebuild()))
	for stripe := range 40 {
		whole(stripe, false, api.OK)
		play(t, w, tells(tick(), 1))
		whole(stripe, true, api.OK)
	}
	play(t, w, ok(stop(0)))
	whole(7, false, api.ErrOff)
}

func TestSpace(t *testing.T) { // P17.4
	w := ready(t, small)
	space := func(want int, e api.Errno) {
		t.Helper()
		if got, is := w.Space(); got != want || is != e {
			t.Errorf("%d, %d, not %d, %d", got, is, want, e)
		}
	}
	space(48, api.OK) // of 80 blocks: a label, a block of bits, two of the table, a ring of 28
	play(t, w, tells(open("/x", 7), 0), tells(write(0, textOf(1, 300)), 300))
	space(44, api.OK)
	play(t, w, ok(kill(0)), ok(kill(1)), tells(open("/x", 3), 1))
	space(44, api.OK) // the cache has the bits
	w = ready(t, narrow)
	play(t, w, ok(stop(0)))
	space(0, api.ErrOff)
	w = ready(t, narrow)
	play(t, w, ok(kill(0)), ok(kill(1)))
	space(0, api.ErrIo)
}

func TestWaits(t *testing.T) { // P17.4
	w := ready(t, narrow)
	play(t, w, tells(open("/x", 7), 0), tells(write(0, textOf(3, 1024)), 1024), ok(sync()))
	some := false
	for d := -3; d < 20; d++ {
		if got, want := w.Waits(d), w.disks.Waits(d); got != want {
			t.Errorf("Waits(%d) = %d, not %d", d, got, want)
		}
		some = some || w.Waits(d) > 0
	}
	if !some {
		t.Error("nothing waits")
	}
	play(t, w, ok(crash()))
	for d := range 5 {
		if w.Waits(d) != 0 {
			t.Error(d, w.Waits(d))
		}
	}
}

// TestAnyArguments: no step panics, and what is refused tells nothing else (P1, R1, R2).
func TestAnyArguments(t *testing.T) {
	numbers := []int{0, 1, 2, 3, 7, 15, 16, 31, 127, 128, 1024, 1025, 136192, 136193, -1, -136193, math.MinInt, math.MaxInt, math.MaxInt32 + 1, 1 << 40}
	texts := []string{"", "/", "/a", "/a/b", "//a/", "a", "/\x00", "/..", "\xff\xfe", strings.Repeat("/x", 200), textOf(1, 1025), textOf(2, 70000), "/" + textOf(3, 27)}
	keeps := [][][]int{nil, {}, {nil}, {{0, 0, -1}, {math.MaxInt, math.MinInt}}, make([][]int, 500), {{0, 1, 2}, {0}, {5, 4, 3, 2, 1, 0}, {0}}}
	for seed := range int64(20) {
		r := rand.New(rand.NewSource(seed))
		number := func() int { return numbers[r.Intn(len(numbers))] }
		w := ready(t, small)
		play(t, w, ok(mkdir("/a")), tells(open("/x", 7), 0), tells(open("/a/b", 7), 1))
		for range 500 {
			s := api.Step{
				Kind: r.Intn(28) - 2, Path: texts[r.Intn(len(texts))], To: texts[r.Intn(len(texts))], Data: texts[r.Intn(len(texts))],
				Fd: number(), N: number(), At: number(), Keep: keeps[r.Intn(len(keeps))],
			}
			if s.Kind == api.StepKill && r.Intn(3) > 0 {
				continue
			}
			got := w.Do(s)
			if got.Err != api.OK && !same(got, told(got.Err)) || got.Err < 0 || got.Err > api.ErrMlink {
				t.Fatalf("%s: %s", show(s), tell(got))
			}
			if !w.Mounted() && r.Intn(4) == 0 {
				w.Do(mount())
			}
			w.Space()
			w.Whole(s.N)
			w.Good(s.N, s.At)
			w.Waits(s.N)
		}
	}
}

// TestOwn: answers are the caller's own; two worlds know nothing of each other (R3, R5).
func TestOwn(t *testing.T) {
	a, b := ready(t, small), ready(t, small)
	play(t, a, ok(mkdir("/d")), ok(mkdir("/e")))
	a.Do(listOf("/")).List[0] = "x"
	play(t, a, names(listOf("/"), "d", "e"))
	play(t, b, names(listOf("/")), ok(kill(0)), ok(crash()))
	play(t, a, ok(sync()), ok(crash()), ok(mount()), names(listOf("/"), "d", "e"))
	if len(a.Status().Dead) != 0 {
		t.Error("a disk of another world died")
	}
}

func TestExamples(t *testing.T) { // those of DOC.md
	for i, list := range [][]happening{
		{ok(mkdir("/d")), names(listOf("/"), "d")},
		{tells(open("/x", 7), 0), tells(write(0, "hello"), 5), tells(seek(0, 1, 0), 1), reads(read(0, 9), "ello")},
		{tells(open("/x", 7), 0), tells(write(0, "hello"), 5), ok(crash()), ok(mount()), no(statOf("/x"), api.ErrNoent)},
		{tells(open("/x", 7), 0), tells(write(0, "hello"), 5), ok(fsync(0)), ok(crash()), ok(mount()),
			{statOf("/x"), api.Reply{Stat: api.Stat{Ino: 1, Kind: 1, Links: 1, Size: 5}}}},
		{ok(mkdir("/d")), ok(sync()), ok(kill(1)), ok(crash()), ok(mount()), names(listOf("/"), "d")},
		{ok(kill(1)), ok(rebuild()), tells(tick(), 1), tells(tick(), 1)},
		{tells(tick(), 2), no(rebuild(), api.ErrNone)},
		{ok(mkdir("/a")), ok(mkdir("/a/b")), no(rename("/a", "/a/b/c"), api.ErrInval)},
		{tells(open("/x", 7), 0), ok(unlink("/x")), tells(write(0, "q"), 1), ok(closing(0)), no(statOf("/x"), api.ErrNoent)},
		{ok(stop(0)), ok(mkdir("/d")), no(sync(), api.ErrOff), ok(crash()), ok(mount()), names(listOf("/"))},
	} {
		w, e := New(small)
		done(t, e)
		t.Run(fmt.Sprint(i+1), func(t *testing.T) { play(t, w, list...) })
	}
}
