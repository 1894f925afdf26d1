package world

import (
	"fmt"
	"math/rand"
	"slices"
	"strings"
	"testing"

	"ashlar/api"
	"ashlar/shelf"
)

var (
	small  = api.Conf{Members: 3, Spare: true, Stripes: 40, Logs: 1, Inodes: 4, Ring: 28, Cache: 4} // that of the document's examples
	middle = api.Conf{Members: 4, Spare: true, Stripes: 60, Logs: 2, Inodes: 12, Ring: 30, Cache: 9}
	narrow = api.Conf{Members: 5, Stripes: 30, Logs: 3, Inodes: 9, Ring: 28, Cache: 1} // with a cache of one, and without a spare
	tight  = api.Conf{Members: 4, Spare: true, Stripes: 14, Logs: 1, Inodes: 5, Ring: 28, Cache: 5}
	wide   = api.Conf{Members: 16, Spare: true, Stripes: 60, Logs: 8, Inodes: 256, Ring: 64, Cache: 256}
)

func disksOf(c api.Conf) int {
	if c.Spare {
		return c.Members + 1
	}
	return c.Members
}

func done(t *testing.T, e api.Errno) {
	t.Helper()
	if e != api.OK {
		t.Fatalf("error %d", e)
	}
}

var fresh = map[api.Conf]*shelf.Shelf{}

// ready is a new world; New itself is done once for each Conf.
func ready(t *testing.T, c api.Conf) *World {
	t.Helper()
	if fresh[c] == nil {
		w, e := New(c)
		done(t, e)
		fresh[c] = w.disks
	}
	return over(t, c, fresh[c].Fork())
}

// over is a world of disks that something was done to, mounted.
func over(t *testing.T, c api.Conf, s *shelf.Shelf) *World {
	t.Helper()
	w := &World{disks: s, cache: c.Cache}
	done(t, w.Do(mount()).Err)
	return w
}

func open(p string, flags int) api.Step { return api.Step{Kind: api.StepOpen, Path: p, N: flags} }
func closing(fd int) api.Step           { return api.Step{Kind: api.StepClose, Fd: fd} }
func read(fd, n int) api.Step           { return api.Step{Kind: api.StepRead, Fd: fd, N: n} }
func write(fd int, b string) api.Step   { return api.Step{Kind: api.StepWrite, Fd: fd, Data: b} }
func seek(fd, off, whence int) api.Step {
	return api.Step{Kind: api.StepSeek, Fd: fd, N: off, At: whence}
}
func truncate(fd, size int) api.Step { return api.Step{Kind: api.StepTruncate, Fd: fd, N: size} }
func unlink(p string) api.Step       { return api.Step{Kind: api.StepUnlink, Path: p} }
func mkdir(p string) api.Step        { return api.Step{Kind: api.StepMkdir, Path: p} }
func rmdir(p string) api.Step        { return api.Step{Kind: api.StepRmdir, Path: p} }
func rename(p, to string) api.Step   { return api.Step{Kind: api.StepRename, Path: p, To: to} }
func link(p, to string) api.Step     { return api.Step{Kind: api.StepLink, Path: p, To: to} }
func statOf(p string) api.Step       { return api.Step{Kind: api.StepStat, Path: p} }
func listOf(p string) api.Step       { return api.Step{Kind: api.StepList, Path: p} }
func fsync(fd int) api.Step          { return api.Step{Kind: api.StepFsync, Fd: fd} }
func sync() api.Step                 { return api.Step{Kind: api.StepSync} }
func tick() api.Step                 { return api.Step{Kind: api.StepTick} }
func rebuild() api.Step              { return api.Step{Kind: api.StepRebuild} }
func stop(n int) api.Step            { return api.Step{Kind: api.StepStop, N: n} }
func crash(keep ...[]int) api.Step   { return api.Step{Kind: api.StepCrash, Keep: keep} }
func mount() api.Step                { return api.Step{Kind: api.StepMount} }
func kill(d int) api.Step            { return api.Step{Kind: api.StepKill, N: d} }
func count() api.Step                { return api.Step{Kind: api.StepCount} }

func corrupt(d, sector, at int, with byte) api.Step {
	return api.Step{Kind: api.StepCorrupt, N: d, At: sector, Fd: at, Data: string([]byte{with})}
}

// A happening is a step, and what it should answer.
type happening struct {
	step api.Step
	want api.Reply
}

func ok(s api.Step) happening                 { return happening{step: s} }
func no(s api.Step, e api.Errno) happening    { return happening{s, api.Reply{Err: e}} }
func tells(s api.Step, n int) happening       { return happening{s, api.Reply{N: n}} }
func reads(s api.Step, b string) happening    { return happening{s, api.Reply{N: len(b), Data: b}} }
func names(s api.Step, l ...string) happening { return happening{s, api.Reply{List: l}} }

// same tells whether two answers are: a nil list and an empty one are.
func same(a, b api.Reply) bool {
	return a.Err == b.Err && a.N == b.N && a.Data == b.Data && a.Stat == b.Stat && slices.Equal(a.List, b.List)
}

func play(t *testing.T, w *World, list ...happening) {
	t.Helper()
	for i, x := range list {
		if got := w.Do(x.step); !same(got, x.want) {
			t.Fatalf("the step %d, %s: %s, not %s", i, show(x.step), tell(got), tell(x.want))
		}
	}
}

// junked is a step whose kind names none of the fields that are others then.
func junked(s api.Step, r *rand.Rand) api.Step {
	named := strings.Split([]string{
		"", "Path N", "Fd", "Fd N", "Fd Data", "Fd N At", "Fd N", "Path", "Path", "Path", "Path To", "Path To", "Path", "Path", "Fd", "", "", "",
		"N", "Keep", "", "N", "N At Fd Data", "",
	}[s.Kind], " ")
	path, number := []string{"", "/", "/a", "x"}[r.Intn(4)], r.Intn(40)-20
	for field, spoil := range map[string]func(){
		"Path": func() { s.Path = path }, "To": func() { s.To = path }, "Fd": func() { s.Fd = number }, "N": func() { s.N = number },
		"At": func() { s.At = number }, "Data": func() { s.Data = path }, "Keep": func() { s.Keep = [][]int{{number, 0, 1}} },
	} {
		if !slices.Contains(named, field) {
			spoil()
		}
	}
	return s
}

// show is a step in few words.
func show(s api.Step) string {
	kinds := []string{"", "Open", "Close", "Read", "Write", "Seek", "Truncate", "Unlink", "Mkdir", "Rmdir", "Rename", "Link", "Stat", "List", "Fsync", "Sync", "Tick",
		"Rebuild", "Stop", "Crash", "Mount", "Kill", "Corrupt", "Count"}
	kind := fmt.Sprint(s.Kind)
	if s.Kind > 0 && s.Kind < len(kinds) {
		kind = kinds[s.Kind]
	}
	return fmt.Sprintf("%s(%q %q fd %d n %d at %d data %.20q keep %v)", kind, s.Path, s.To, s.Fd, s.N, s.At, s.Data, s.Keep)
}

func tell(r api.Reply) string {
	return fmt.Sprintf("error %d, %d, %.60q, %v, %v", r.Err, r.N, r.Data, r.List, r.Stat)
}

// textOf is so many bytes, none of them a nought; the seed makes others.
func textOf(seed, n int) string {
	b := make([]byte, n)
	for i := range b {
		b[i] = byte(1 + (seed*31+i*7+i/128)%255)
	}
	return string(b)
}

// image is all that can be told of a tree of which nothing is open, going from name to name.
func image(do func(s api.Step) api.Reply) string {
	var out strings.Builder
	var walk func(p string)
	walk = func(p string) {
		x := do(statOf(p))
		fmt.Fprintf(&out, "%s: %s\n", p, tell(x))
		if x.Stat.Kind == api.KindDir {
			for _, name := range do(listOf(p)).List {
				walk(strings.TrimSuffix(p, "/") + "/" + name)
			}
			return
		}
		fd := do(open(p, api.FlagRead)).N
		for at := 0; at < x.Stat.Size; at += 1024 {
			r := do(read(fd, 1024))
			if s := strings.TrimRight(r.Data, "\x00"); s != "" || r.Err != api.OK { // holes would make it long
				fmt.Fprintf(&out, "\t%d: %d, %d, %q\n", at, r.Err, r.N, s)
			}
		}
		do(closing(fd))
	}
	walk("/")
	return out.String()
}

func (p *plain) image() string {
	return image(p.clone().do) + fmt.Sprintln("free", p.free())
}

func (w *World) image(t *testing.T) string {
	t.Helper()
	got := image(w.Do)
	free, e := w.Space()
	done(t, e)
	return got + fmt.Sprintln("free", free)
}

// keepOf is what a crash keeps: those of all waiting writes that a function takes.
func keepOf(w *World, kept func(number int) bool) [][]int {
	disks, _ := w.disks.Size()
	keep, number := make([][]int, disks), 0
	for d := range disks {
		for k := range w.Waits(d) {
			if kept(number) {
				keep[d] = append(keep[d], k)
			}
			number++
		}
	}
	return keep
}

// someKeeps are lists of what a crash may keep: all lists, or none, all and some, if those are too many.
func someKeeps(w *World) [][][]int {
	disks, _ := w.disks.Size()
	total := 0
	for d := range disks {
		total += w.Waits(d)
	}
	var list [][][]int
	if total <= 2 {
		for which := range 1 << total {
			list = append(list, keepOf(w, func(number int) bool { return which>>number&1 == 1 }))
		}
		return list
	}
	r := rand.New(rand.NewSource(int64(total)))
	one := r.Intn(total)
	for _, kept := range []func(int) bool{
		func(int) bool { return false }, func(int) bool { return true }, func(int) bool { return r.Intn(2) == 0 },
		func(number int) bool { return number == one }, func(number int) bool { return number != one },
	} {
		list = append(list, keepOf(w, kept))
	}
	return list
}

// sectors are all bytes of the disks that answer.
func sectors(w *World) [][]string {
	var all [][]string
	s := w.disks.Fork()
	disks, count := s.Size()
	for d := range disks {
		var list []string
		for n := range count {
			b, e := s.Read(d, n)
			list = append(list, fmt.Sprint(e, string(b)))
		}
		all = append(all, list)
	}
	return all
}
