package fs

import (
	"fmt"
	"math/rand"
	"slices"
	"strings"
	"testing"

	"ashlar/api"
	"ashlar/lay"
	"ashlar/raid"
	"ashlar/shelf"
)

// done fails if a call was refused.
func done(t *testing.T, e api.Errno) {
	t.Helper()
	if e != api.OK {
		t.Fatalf("error %d", e)
	}
}

// is fails if a call answers another error than the one that is asked for.
func is(t *testing.T, what string, got, want api.Errno) {
	t.Helper()
	if got != want {
		t.Errorf("%s: %d, not %d", what, got, want)
	}
}

// A shape is an array's numbers, a file system's, and a cache's.
type shape struct {
	members, spare, stripes, logs int
	inodes, ring, most            int
}

var (
	small  = shape{members: 3, spare: 1, stripes: 40, logs: 1, inodes: 4, ring: 28, most: 4} // that of the document's examples
	middle = shape{members: 4, stripes: 60, logs: 2, inodes: 12, ring: 30, most: 9}
	narrow = shape{members: 5, stripes: 30, logs: 3, inodes: 9, ring: 28, most: 1} // with a cache of one
	tight  = shape{members: 4, stripes: 14, logs: 1, inodes: 5, ring: 28, most: 5} // with 9 blocks for files
	wide   = shape{members: 16, stripes: 100, logs: 8, inodes: 256, ring: 64, most: 256}
)

func (x shape) size() int { return x.stripes * (x.members - 1) }

// table, base and things are reckoned anew, not by a layout.
func (x shape) table() int { return 1 + (min(x.size()-x.ring, 4096)+1023)/1024 }

func (x shape) base() int { return x.table() + (x.inodes+1)/2 }

func (x shape) things() int { return min(x.size()-x.ring-x.base(), 4096) }

// array is a volume of noughts.
func (x shape) array(t *testing.T) (*shelf.Shelf, *raid.Volume) {
	t.Helper()
	need, e := lay.Need(x.stripes, x.logs)
	done(t, e)
	s, e := shelf.New(x.members+x.spare, need+(need+15)/16)
	done(t, e)
	v, e := raid.Create(s, x.members, x.stripes, x.logs)
	done(t, e)
	return s, v
}

// A site is a file system over disks.
type site struct {
	shape
	s *shelf.Shelf
	v *raid.Volume
	f *FS
}

var fresh = map[shape]*shelf.Shelf{}

// ready is an empty file system that is mounted.
func (x shape) ready(t *testing.T) *site {
	t.Helper()
	if fresh[x] == nil {
		s, v := x.array(t)
		done(t, Mkfs(v, x.inodes, x.ring))
		fresh[x] = s
	}
	return x.on(t, fresh[x].Fork())
}

// on is the file system that some disks have.
func (x shape) on(t *testing.T, s *shelf.Shelf) *site {
	t.Helper()
	w := &site{shape: x, s: s}
	w.mount(t)
	return w
}

func (w *site) mount(t *testing.T) {
	t.Helper()
	var e api.Errno
	w.v, e = raid.Open(w.s)
	done(t, e)
	w.f, e = Mount(w.v, w.most)
	done(t, e)
}

// crash loses all that waits.
func (w *site) crash(t *testing.T) {
	t.Helper()
	w.s.Crash(nil)
	w.mount(t)
}

// A system is the file system, or the plain one.
type system interface {
	Open(p string, flags int) (int, api.Errno)
	Close(fd int) api.Errno
	Read(fd, n int) ([]byte, api.Errno)
	Write(fd int, b []byte) (int, api.Errno)
	Seek(fd, off, whence int) (int, api.Errno)
	Truncate(fd, size int) api.Errno
	Unlink(p string) api.Errno
	Mkdir(p string) api.Errno
	Rmdir(p string) api.Errno
	Link(from, to string) api.Errno
	Rename(from, to string) api.Errno
	Stat(p string) (api.Stat, api.Errno)
	List(p string) ([]string, api.Errno)
	Fsync(fd int) api.Errno
	Sync() api.Errno
	Space() (int, api.Errno)
}

// An op is a call, which tells all that was answered.
type op struct {
	what string
	do   func(f system) string
}

func ofError(e api.Errno) string { return fmt.Sprint("error ", int(e)) }

func opOf(do func(f system) api.Errno, words ...any) op {
	return op{fmt.Sprint(words...), func(f system) string { return ofError(do(f)) }}
}

// answer is what a call told, in one text.
func answer[T any](x T, e api.Errno) string {
	return fmt.Sprintf("%v, %s", x, ofError(e))
}

func open(p string, flags int) op {
	return op{fmt.Sprintf("Open(%q, %d)", p, flags), func(f system) string { return answer(f.Open(p, flags)) }}
}

func closing(fd int) op {
	return opOf(func(f system) api.Errno { return f.Close(fd) }, "Close ", fd)
}

func read(fd, n int) op {
	return op{fmt.Sprintf("Read(%d, %d)", fd, n), func(f system) string { return answer(f.Read(fd, n)) }}
}

func write(fd int, b string) op {
	return op{fmt.Sprintf("Write(%d, %d bytes)", fd, len(b)), func(f system) string { return answer(f.Write(fd, []byte(b))) }}
}

func seek(fd, off, whence int) op {
	return op{fmt.Sprintf("Seek(%d, %d, %d)", fd, off, whence), func(f system) string { return answer(f.Seek(fd, off, whence)) }}
}

func truncate(fd, size int) op {
	return opOf(func(f system) api.Errno { return f.Truncate(fd, size) }, "Truncate ", fd, " ", size)
}

func unlink(p string) op {
	return opOf(func(f system) api.Errno { return f.Unlink(p) }, "Unlink ", p)
}

func mkdir(p string) op {
	return opOf(func(f system) api.Errno { return f.Mkdir(p) }, "Mkdir ", p)
}

func rmdir(p string) op {
	return opOf(func(f system) api.Errno { return f.Rmdir(p) }, "Rmdir ", p)
}

func link(from, to string) op {
	return opOf(func(f system) api.Errno { return f.Link(from, to) }, "Link ", from, " ", to)
}

func rename(from, to string) op {
	return opOf(func(f system) api.Errno { return f.Rename(from, to) }, "Rename ", from, " ", to)
}

func stat(p string) op {
	return op{"Stat " + p, func(f system) string { return answer(f.Stat(p)) }}
}

func list(p string) op {
	return op{"List " + p, func(f system) string {
		l, e := f.List(p)
		return answer(strings.Join(l, " "), e)
	}}
}

func fsync(fd int) op {
	return opOf(func(f system) api.Errno { return f.Fsync(fd) }, "Fsync ", fd)
}

func sync() op {
	return opOf(func(f system) api.Errno { return f.Sync() }, "Sync")
}

func space() op {
	return op{"Space", func(f system) string { return answer(f.Space()) }}
}

// A step is a call, and what it is to answer.
type step struct {
	op
	want string
}

func ok[T any](x T) string { return answer(x, api.OK) }

func no[T any](e api.Errno) string {
	var zero T
	return answer(zero, e)
}

func err(e api.Errno) string { return ofError(e) }

// play fails if a call answers something else.
func (w *site) play(t *testing.T, steps ...step) {
	t.Helper()
	for i, x := range steps {
		if got := x.do(w.f); got != x.want {
			t.Errorf("step %d: %s = %s, not %s", i, x.what, got, x.want)
		}
	}
}

// setUp does calls that must not be refused.
func (w *site) setUp(t *testing.T, ops ...op) {
	t.Helper()
	for _, x := range ops {
		if got := x.do(w.f); !strings.HasSuffix(got, ofError(api.OK)) {
			t.Fatalf("%s = %s", x.what, got)
		}
	}
}

// image is all that a file system has, file by file, as one text: it is not asked by paths.
func (w *site) image(t *testing.T) string {
	t.Helper()
	var out strings.Builder
	for ino := range w.inodes {
		n, e := w.f.table.Get(ino)
		done(t, e)
		if n.Kind == api.KindFree {
			continue
		}
		blocks, e := w.f.table.Blocks(ino)
		done(t, e)
		fmt.Fprintf(&out, "%d: kind %d, links %d, size %d, blocks %d\n", ino, n.Kind, n.Links, n.Size, len(blocks))
		for at := 0; at < n.Size; at += 1024 {
			b, e := w.f.table.Read(ino, at, 1024)
			done(t, e)
			for i := 0; i < len(b); i += 128 {
				noteBytes(&out, at+i, b[i:min(i+128, len(b))])
			}
		}
	}
	free, e := w.f.Space()
	done(t, e)
	fmt.Fprintf(&out, "free %d\n", free)
	return out.String()
}

// noteBytes leaves out noughts, so that great files have small images.
func noteBytes(out *strings.Builder, at int, b []byte) {
	if s := strings.TrimRight(string(b), "\x00"); s != "" {
		fmt.Fprintf(out, "\t%d: %q\n", at, s)
	}
}

// sound fails if blocks are two files', or free, or taken by none, or if links are not as names are (P16.8).
func (w *site) sound(t *testing.T) {
	t.Helper()
	taken := map[int]int{}
	links := map[int]int{root: 1}
	for ino := range w.inodes {
		n, e := w.f.table.Get(ino)
		done(t, e)
		blocks, e := w.f.table.Blocks(ino)
		done(t, e)
		for _, block := range blocks {
			if other, has := taken[block]; has {
				t.Fatalf("the block %d is taken by %d and %d", block, other, ino)
			}
			taken[block] = ino
		}
		if n.Kind != api.KindDir {
			continue
		}
		for _, at := range slots(t, w, ino, n.Size) {
			if at.ino != 0 {
				links[at.ino]++
			}
		}
	}
	for i := range w.things() {
		has, e := w.f.things.Has(i)
		done(t, e)
		if _, want := taken[w.base()+i]; has != want {
			t.Fatalf("the block %d is taken: %v", w.base()+i, has)
		}
	}
	for ino := range w.inodes {
		n, _ := w.f.table.Get(ino)
		if n.Links != links[ino] {
			t.Fatalf("the file %d has %d links, and %d names", ino, n.Links, links[ino])
		}
	}
}

// slots are a directory's places, read by hand.
func slots(t *testing.T, w *site, ino, size int) []place {
	t.Helper()
	var list []place
	for at := 0; at < size; at += 32 {
		b, e := w.f.table.Read(ino, at, 32)
		done(t, e)
		list = append(list, place{int(b[0]), string(b[5 : 5+b[4]])})
	}
	return list
}

// blocks are all of a volume but the journal's, as the file system sees them.
func (w *site) blocks(t *testing.T) []string {
	t.Helper()
	var all []string
	for n := range w.size() - w.ring {
		b, e := w.f.journal.Read(n)
		done(t, e)
		all = append(all, string(b))
	}
	return all
}

// keepOf is what a crash keeps: those of all waiting writes that a function takes.
func keepOf(s *shelf.Shelf, kept func(number int) bool) [][]int {
	disks, _ := s.Size()
	keep, number := make([][]int, disks), 0
	for d := range disks {
		for k := range s.Waits(d) {
			if kept(number) {
				keep[d] = append(keep[d], k)
			}
			number++
		}
	}
	return keep
}

func waits(s *shelf.Shelf) int {
	disks, _ := s.Size()
	n := 0
	for d := range disks {
		n += s.Waits(d)
	}
	return n
}

// someKeeps are lists of what a crash may keep: all lists, or none, all and some, if those are too many.
func someKeeps(s *shelf.Shelf) [][][]int {
	var list [][][]int
	total := waits(s)
	if total <= 3 {
		for which := range 1 << total {
			list = append(list, keepOf(s, func(number int) bool { return which>>number&1 == 1 }))
		}
		return list
	}
	r := rand.New(rand.NewSource(int64(total)))
	list = append(list, nil, keepOf(s, func(int) bool { return true }))
	for range 3 {
		list = append(list, keepOf(s, func(int) bool { return r.Intn(2) == 0 }))
	}
	one := r.Intn(total)
	list = append(list, keepOf(s, func(number int) bool { return number == one }))
	return append(list, keepOf(s, func(number int) bool { return number != one }))
}

// text is so many bytes, none of them a nought; the seed makes others.
func text(seed, n int) string {
	b := make([]byte, n)
	for i := range b {
		b[i] = byte(1 + (seed*31+i*7+i/128)%255)
	}
	return string(b)
}

// sameImage fails if two images differ; it tells the first line that does.
func sameImage(t *testing.T, what, got, want string) {
	t.Helper()
	if got == want {
		return
	}
	a, b := strings.Split(got, "\n"), strings.Split(want, "\n")
	for i := range min(len(a), len(b)) {
		if a[i] != b[i] {
			t.Fatalf("%s: %.200s, not %.200s", what, a[i], b[i])
		}
	}
	t.Fatalf("%s: %d lines, not %d", what, len(a), len(b))
}

// isOneOf fails if an image is none of some.
func isOneOf(t *testing.T, what, got string, may []string) {
	t.Helper()
	if !slices.Contains(may, got) {
		t.Fatalf("%s: what is left is as behind none of the calls:\n%.1500s\nnot the last one:\n%.1500s", what, got, may[len(may)-1])
	}
}
