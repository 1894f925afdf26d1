package dir

import (
	"fmt"
	"slices"
	"strings"
	"testing"

	"ashlar/alloc"
	"ashlar/api"
	"ashlar/cache"
	"ashlar/inode"
	"ashlar/journal"
	"ashlar/lay"
	"ashlar/raid"
	"ashlar/shelf"
)

// done fails if a call was refused.
func done(t *testing.T, e api.Errno) {
	t.Helper()
	if e != api.OK {
		t.Fatalf("error %d", e)
	}
}

// is fails if a call answers another error than the one that is asked for.
func is(t *testing.T, what string, got, want api.Errno) {
	t.Helper()
	if got != want {
		t.Errorf("%s: %d, not %d", what, got, want)
	}
}

// A shape is an array's numbers, a cache's, and a map's. The bits stand from the block 1 on, the table of 6 files behind
// them, the files' blocks behind that; the journal's 28 blocks are the last ones.
type shape struct{ members, stripes, most, things int }

var (
	small  = shape{4, 40, 9, 60}     // 120 blocks
	tight  = shape{4, 40, 9, 5}      // of which few are the files'
	narrow = shape{4, 40, 1, 80}     // with a cache of one
	big    = shape{16, 96, 64, 1300} // 1440 blocks
)

const files = 6

func (x shape) ring() int { return x.stripes*(x.members-1) - api.MinRing }

func (x shape) table() int { return 1 + (x.things+1023)/1024 }

func (x shape) base() int { return x.table() + files/2 }

// A site is a table over disks; its file 0 is a directory.
type site struct {
	shape
	s *shelf.Shelf
	j *journal.Journal
	m *alloc.Map
	f *inode.Table
}

var fulls = map[shape]*shelf.Shelf{}

// ready is an array with an empty directory.
func (x shape) ready(t *testing.T) *site {
	t.Helper()
	if fulls[x] == nil {
		need, e := lay.Need(x.stripes, 1)
		done(t, e)
		s, e := shelf.New(x.members, need+(need+15)/16)
		done(t, e)
		v, e := raid.Create(s, x.members, x.stripes, 1)
		done(t, e)
		c, e := cache.New(v, x.most)
		done(t, e)
		done(t, journal.Format(c, x.ring(), api.MinRing))
		w := &site{shape: x, s: s}
		w.open(t)
		w.set(t, 0, api.Inode{Kind: api.KindDir, Links: 1})
		fulls[x] = s
	}
	w := &site{shape: x, s: fulls[x].Fork()}
	w.open(t)
	return w
}

// open begins with what the disks have.
func (w *site) open(t *testing.T) {
	t.Helper()
	v, e := raid.Open(w.s)
	done(t, e)
	c, e := cache.New(v, w.most)
	done(t, e)
	w.j, _, e = journal.Open(c, w.ring(), api.MinRing)
	done(t, e)
	w.m, e = alloc.Open(w.j, 1, w.things)
	done(t, e)
	w.f, e = inode.Open(w.j, w.m, w.table(), files, w.base())
	done(t, e)
}

// crash loses what was not committed.
func (w *site) crash(t *testing.T) {
	t.Helper()
	w.s.Crash(nil)
	w.open(t)
}

// set lets a place have a file, surely.
func (w *site) set(t *testing.T, ino int, n api.Inode) {
	t.Helper()
	done(t, w.f.Set(ino, n))
	done(t, w.j.Commit())
}

// write lets a file have bytes, surely.
func (w *site) write(t *testing.T, ino, off int, b []byte) {
	t.Helper()
	for len(b) > 0 {
		n := min(len(b), 1024)
		done(t, w.f.Write(ino, off, b[:n]))
		done(t, w.j.Commit())
		off, b = off+n, b[n:]
	}
}

// add lets the directory have names; each names 1 and how many there are ahead of it.
func (w *site) add(t *testing.T, names ...string) {
	t.Helper()
	for i, name := range names {
		done(t, Add(w.f, 0, api.Entry{Ino: i%255 + 1, Name: name}))
		done(t, w.j.Commit())
	}
}

// has fails if the directory's bytes are not these entries; those without a number are free places.
func (w *site) has(t *testing.T, list ...api.Entry) {
	t.Helper()
	var want []byte
	for _, x := range list {
		want = append(want, bytesOf(x)...)
	}
	n, e := w.f.Get(0)
	done(t, e)
	var got []byte
	for at := 0; at < n.Size; at += 1024 {
		b, e := w.f.Read(0, at, 1024)
		done(t, e)
		got = append(got, b...)
	}
	if !slices.Equal(got, want) || n.Kind != api.KindDir || n.Links != 1 {
		t.Errorf("the directory is %v and has %x, not %x", n, got, want)
	}
}

func finds(t *testing.T, f *inode.Table, name string, want int, e api.Errno) {
	t.Helper()
	if got, err := Find(f, 0, name); got != want || err != e {
		t.Errorf("Find(%.40q) = %d, %d, not %d, %d", name, got, err, want, e)
	}
}

func slot(t *testing.T, f *inode.Table, want int, e api.Errno) {
	t.Helper()
	if got, err := Slot(f, 0); got != want || err != e {
		t.Errorf("Slot = %d, %d, not %d, %d", got, err, want, e)
	}
}

func lists(t *testing.T, f *inode.Table, want []api.Entry, e api.Errno) {
	t.Helper()
	if got, err := List(f, 0); !slices.Equal(got, want) || err != e {
		t.Errorf("List = %v, %d, not %v, %d", got, err, want, e)
	}
}

// row is so many names.
func row(n int) []string {
	var list []string
	for i := range n {
		list = append(list, fmt.Sprint("n", i))
	}
	return list
}

func TestExample(t *testing.T) { // P15.2, P15.3
	w := small.ready(t)
	lists(t, w.f, nil, api.OK)
	slot(t, w.f, 0, api.OK)
	done(t, Add(w.f, 0, api.Entry{Ino: 3, Name: "b"}))
	slot(t, w.f, 32, api.OK)
	done(t, Add(w.f, 0, api.Entry{Ino: 2, Name: "a"}))
	lists(t, w.f, []api.Entry{{Ino: 2, Name: "a"}, {Ino: 3, Name: "b"}}, api.OK)
	slot(t, w.f, 64, api.OK)
	finds(t, w.f, "a", 2, api.OK)
	finds(t, w.f, "b", 3, api.OK)
	finds(t, w.f, "c", 0, api.ErrNoent)
	done(t, Drop(w.f, 0, "b"))
	slot(t, w.f, 0, api.OK)
	finds(t, w.f, "b", 0, api.ErrNoent)
	w.has(t, api.Entry{}, api.Entry{Ino: 2, Name: "a"})
	lists(t, w.f, []api.Entry{{Ino: 2, Name: "a"}}, api.OK)
}

func TestNamesAreListedByteByByte(t *testing.T) { // P15.2, P15.4
	w := small.ready(t)
	names := []string{"b", "a", "B", "aa", "a.", "\xff", "é", "~", "\x01", "a\x01", "ab", " ", "10", "9", long, long[:26], "l", "m", "..."}
	w.add(t, names...)
	got, e := List(w.f, 0)
	done(t, e)
	slices.Sort(names) // byte by byte
	for i, x := range got {
		if x.Name != names[i] {
			t.Errorf("the name %d is %q, not %q", i, x.Name, names[i])
		}
		finds(t, w.f, x.Name, x.Ino, api.OK)
	}
	if len(got) != len(names) {
		t.Errorf("%d names are listed", len(got))
	}
}

func TestWhereEntriesStand(t *testing.T) { // P15.3, P15.5
	w := small.ready(t)
	w.add(t, row(9)...)
	all := make([]api.Entry, 9)
	for i := range all {
		all[i] = api.Entry{Ino: i + 1, Name: fmt.Sprint("n", i)}
	}
	w.has(t, all...)
	done(t, Drop(w.f, 0, "n7"))
	slot(t, w.f, 7*32, api.OK)
	done(t, Drop(w.f, 0, "n4"))
	slot(t, w.f, 4*32, api.OK)
	all[7], all[4] = api.Entry{}, api.Entry{}
	w.has(t, all...)
	done(t, Point(w.f, 0, api.Entry{Ino: 77, Name: "n8"}))
	all[8].Ino = 77
	w.has(t, all...)
	slot(t, w.f, 4*32, api.OK)
	done(t, Add(w.f, 0, api.Entry{Ino: 99, Name: long}))
	all[4] = api.Entry{Ino: 99, Name: long}
	w.has(t, all...)
	slot(t, w.f, 7*32, api.OK)
	done(t, Add(w.f, 0, api.Entry{Ino: 98, Name: "x"}))
	all[7] = api.Entry{Ino: 98, Name: "x"}
	w.has(t, all...)
	slot(t, w.f, 9*32, api.OK)
	done(t, Add(w.f, 0, api.Entry{Ino: 98, Name: "y"})) // what is named may be named twice
	w.has(t, append(all, api.Entry{Ino: 98, Name: "y"})...)
	for _, x := range []string{"y", "n0"} {
		done(t, Drop(w.f, 0, x))
	}
	all[0] = api.Entry{}
	w.has(t, append(all, api.Entry{})...) // it does not become shorter
	slot(t, w.f, 0, api.OK)
	done(t, Drop(w.f, 0, long))
	all[4] = api.Entry{}
	w.has(t, append(all, api.Entry{})...)
}

func TestNamesThatStandOrDoNot(t *testing.T) { // P15.2, P15.3, R2
	w := small.ready(t)
	w.add(t, "a", "b", "c")
	done(t, Drop(w.f, 0, "b"))
	done(t, w.j.Commit())
	for _, name := range []string{"a", "c"} {
		is(t, "Add", Add(w.f, 0, api.Entry{Ino: 9, Name: name}), api.ErrExist)
	}
	for _, name := range []string{"b", "d", "aa", "A", long} {
		finds(t, w.f, name, 0, api.ErrNoent)
		is(t, "Point", Point(w.f, 0, api.Entry{Ino: 9, Name: name}), api.ErrNoent)
		is(t, "Drop", Drop(w.f, 0, name), api.ErrNoent)
	}
	for _, name := range []string{"", ".", "..", "/", "a/b", "a\x00", "a\x00\x00", "\x00", long + "x", strings.Repeat("a", 1<<20)} {
		finds(t, w.f, name, 0, api.ErrNoent) // no name stands there that may not be
		is(t, "Drop", Drop(w.f, 0, name), api.ErrNoent)
		is(t, "Add", Add(w.f, 0, api.Entry{Ino: 9, Name: name}), api.ErrArg)
		is(t, "Point", Point(w.f, 0, api.Entry{Ino: 9, Name: name}), api.ErrArg)
	}
	for _, ino := range []int{0, -1, 256, 1 << 40} {
		for _, name := range []string{"a", "b"} {
			is(t, "Add", Add(w.f, 0, api.Entry{Ino: ino, Name: name}), api.ErrArg)
			is(t, "Point", Point(w.f, 0, api.Entry{Ino: ino, Name: name}), api.ErrArg)
		}
	}
	if l := w.j.Running(); len(l) != 0 {
		t.Errorf("calls that are refused write %v", l)
	}
}

// deeds are all calls that take a table, each as one that could be done.
func deeds() map[string]func(f *inode.Table, ino int) (string, api.Errno) {
	return map[string]func(f *inode.Table, ino int) (string, api.Errno){
		"Find": func(f *inode.Table, ino int) (string, api.Errno) { n, e := Find(f, ino, "n1"); return fmt.Sprint(n), e },
		"Slot": func(f *inode.Table, ino int) (string, api.Errno) { n, e := Slot(f, ino); return fmt.Sprint(n), e },
		"List": func(f *inode.Table, ino int) (string, api.Errno) { l, e := List(f, ino); return fmt.Sprint(l), e },
		"Add": func(f *inode.Table, ino int) (string, api.Errno) {
			return "", Add(f, ino, api.Entry{Ino: 200, Name: "new"})
		},
		"Point": func(f *inode.Table, ino int) (string, api.Errno) {
			return "", Point(f, ino, api.Entry{Ino: 201, Name: "n1"})
		},
		"Drop": func(f *inode.Table, ino int) (string, api.Errno) { return "", Drop(f, ino, "n1") },
	}
}

func TestWhatIsNoDirectory(t *testing.T) { // P15.2, P15.3, P1
	w := small.ready(t)
	w.set(t, 1, api.Inode{Kind: api.KindFile, Links: 1})
	b, e := w.j.Read(w.table() + 2) // the files 4 and 5
	done(t, e)
	b[0] = 3
	done(t, w.j.Write(w.table()+2, b))
	done(t, w.j.Commit())
	for name, do := range deeds() {
		none, _ := do(nil, 0)
		for ino, want := range map[int]api.Errno{
			1: api.ErrNotdir, 2: api.ErrNotdir, 4: api.ErrCode, -1: api.ErrArg, 6: api.ErrArg, 1 << 62: api.ErrArg, -1 << 63: api.ErrArg,
		} {
			if told, e := do(w.f, ino); told != none || e != want {
				t.Errorf("%s of %d = %s, %d, not %d", name, ino, told, e, want)
			}
		}
		for _, f := range []*inode.Table{nil, {}} {
			told, e := do(f, 0)
			is(t, name+" of no table", e, api.ErrClosed)
			if told != none {
				t.Errorf("%s of no table = %s", name, told)
			}
		}
	}
	is(t, "Add to no table", Add(nil, 0, api.Entry{}), api.ErrClosed)
	is(t, "Point of no table", Point(nil, 0, api.Entry{}), api.ErrClosed)
	is(t, "Add to no directory", Add(w.f, 1, api.Entry{}), api.ErrArg)
	is(t, "Add to no file", Add(w.f, 99, api.Entry{Name: "a"}), api.ErrArg)
	is(t, "Point of no directory", Point(w.f, 1, api.Entry{Ino: 1}), api.ErrArg)
	if l := w.j.Running(); len(l) != 0 {
		t.Errorf("calls that are refused write %v", l)
	}
}

func TestADirectoryThatGrows(t *testing.T) { // P15.2, P15.3, P15.4
	w := small.ready(t)
	names := row(100) // 25 blocks: also those that another one names
	for i, name := range names {
		slot(t, w.f, 32*i, api.OK)
		finds(t, w.f, name, 0, api.ErrNoent)
		w.add(t, name)
		if n, e := w.f.Get(0); n.Size != 32*i+32 || e != api.OK {
			t.Errorf("with %d names it has %d bytes (%d)", i+1, n.Size, e)
		}
	}
	w.crash(t)
	l, e := List(w.f, 0)
	done(t, e)
	if len(l) != 100 {
		t.Errorf("%d names are listed", len(l))
	}
	for i, name := range names {
		done(t, Point(w.f, 0, api.Entry{Ino: i + 1, Name: name}))
		done(t, w.j.Commit())
	}
	for i, name := range names {
		finds(t, w.f, name, i+1, api.OK)
	}
	for i := 99; i >= 0; i-- {
		done(t, Drop(w.f, 0, names[i]))
		done(t, w.j.Commit())
		slot(t, w.f, 32*i, api.OK)
	}
	lists(t, w.f, nil, api.OK)
	if n, e := w.f.Get(0); n.Size != 3200 || e != api.OK {
		t.Errorf("without names it has %d bytes (%d)", n.Size, e)
	}
}

func TestTwoDirectories(t *testing.T) { // P15.4
	w := small.ready(t)
	w.set(t, 5, api.Inode{Kind: api.KindDir, Links: 1})
	w.add(t, "a", "b")
	done(t, Add(w.f, 5, api.Entry{Ino: 9, Name: "a"}))
	done(t, Drop(w.f, 0, "a"))
	if ino, e := Find(w.f, 5, "a"); ino != 9 || e != api.OK {
		t.Errorf("Find = %d, %d", ino, e)
	}
	if l, e := List(w.f, 5); !slices.Equal(l, []api.Entry{{Ino: 9, Name: "a"}}) || e != api.OK {
		t.Errorf("List = %v, %d", l, e)
	}
	if at, e := Slot(w.f, 5); at != 32 || e != api.OK {
		t.Errorf("Slot = %d, %d", at, e)
	}
	lists(t, w.f, []api.Entry{{Ino: 2, Name: "b"}}, api.OK)
}

func TestAnswersAreTheCallersOwn(t *testing.T) { // R3
	w := small.ready(t)
	w.add(t, "a", "b")
	l, e := List(w.f, 0)
	done(t, e)
	l[0], l[1] = api.Entry{}, api.Entry{}
	lists(t, w.f, []api.Entry{{Ino: 1, Name: "a"}, {Ino: 2, Name: "b"}}, api.OK)
}
