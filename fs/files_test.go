package fs

import (
	"bytes"
	"fmt"
	"math"
	"strings"
	"testing"

	"ashlar/api"
)

// both does the same to a file system and to a plain one, and holds all answers, and what there is then, against each other.
func both(t *testing.T, x shape, ops ...op) (*site, *plain) {
	t.Helper()
	w, p := x.ready(t), x.plain()
	for i, o := range ops {
		if got, want := o.do(w.f), o.do(p); got != want {
			t.Errorf("step %d: %s = %.300s, not %.300s", i, o.what, got, want)
		}
	}
	sameImage(t, "the tree", w.image(t), p.image())
	w.sound(t)
	return w, p
}

// tree is a file, a directory with a file and a directory, and a file with two names.
func tree() []op {
	return []op{
		open("/f", 7), write(0, text(1, 300)), closing(0),
		mkdir("/d"), open("/d/g", 7), write(0, text(2, 150)), closing(0), mkdir("/d/e"), link("/f", "/d/h"), mkdir("/d/e/n"), mkdir("/o"),
	}
}

// paths lead to all kinds of spots of that tree, or nowhere.
var paths = []string{
	"/f", "/d", "/d/g", "/d/e", "/d/e/n", "/d/h", "/o", "/", "//", "/x", "/d/x", "/d/e/x", "/o/x", "/x/y", "/f/x", "/d/g/x", "/d/g/x/y", "/f/",
	"//d///e/", "", "f", "d/g", "/.", "/..", "/d/.", "/d/../f", "/d/\x00", "/" + strings.Repeat("n", 27), "/" + strings.Repeat("n", 28),
	"/x/" + strings.Repeat("n", 28), "/" + strings.Repeat("d/", 128), "/" + strings.Repeat("d/", 17), "/f" + strings.Repeat("/d", 15), "/ \xff\t\n\"",
}

// kept lets a call be done to what there is, and takes it back.
func (w *site) kept(t *testing.T, p *plain, x op) {
	t.Helper()
	was, files := w.f.journal.Saved(), w.f.files
	q := p.clone()
	got, want := x.do(w.f), x.do(q)
	if got != want {
		t.Errorf("%s = %s, not %s", x.what, got, want)
	}
	sameImage(t, "behind "+x.what, w.image(t), q.image())
	w.sound(t)
	done(t, w.f.journal.Undo(was))
	w.f.files = files
}

func TestOpenFlags(t *testing.T) { // P16.3: all flags, of all kinds of spots
	w, p := both(t, middle, tree()...)
	for _, path := range paths {
		for flags := -2; flags < 66; flags++ {
			w.kept(t, p, open(path, flags))
		}
		for _, flags := range []int{math.MinInt, math.MaxInt, 1 << 32, 1<<32 | 7, 3 - 1<<40} {
			w.kept(t, p, open(path, flags))
		}
	}
}

func TestOpen(t *testing.T) { // P16.3, by hand
	w := middle.ready(t)
	w.play(t,
		step{open("/x", 0), no[int](25)}, step{open("/x", 32), no[int](25)}, step{open("/x", 4), no[int](25)}, step{open("/x", 28), no[int](25)},
		step{open("/x", 9), no[int](25)}, step{open("/x", 13), no[int](25)}, step{open("/x", 17), no[int](25)}, step{open("/x", 19), no[int](25)},
		step{open("x", 7), no[int](25)}, step{open("/", 7), no[int](23)}, step{open("/", 23), no[int](20)}, step{open("/", 3), no[int](23)},
		step{open("/x", 3), no[int](21)}, step{open("/x", 11), no[int](21)}, step{open("/y/x", 7), no[int](21)},
		step{open("/x", 23), ok(0)}, step{open("/x", 23), no[int](20)}, step{open("/x", 1), ok(1)}, step{open("/x", 2), ok(2)},
		step{write(0, "hello"), ok(5)}, step{read(1, 9), ok([]byte("hello"))}, step{read(1, 9), ok([]byte(nil))},
		step{read(2, 1), no[[]byte](30)}, step{write(1, "a"), no[int](30)}, step{truncate(1, 0), err(30)}, step{write(2, "HE"), ok(2)},
		step{seek(1, 0, 0), ok(0)}, step{read(1, 1024), ok([]byte("HEllo"))},
		step{open("/x", 14), ok(3)}, step{stat("/x"), ok(api.Stat{Ino: 1, Kind: 1, Links: 1})}, step{read(0, 9), ok([]byte(nil))},
		step{seek(0, 0, 1), ok(5)}, // a cut leaves the place of others
		step{write(0, "!"), ok(1)}, step{seek(1, 0, 0), ok(0)}, step{read(1, 9), ok([]byte("\x00\x00\x00\x00\x00!"))},
		step{open("/x/y", 7), no[int](22)}, step{mkdir("/d"), err(0)}, step{open("/d", 1), no[int](23)}, step{open("/d", 15), no[int](23)},
		step{open("/d", 23), no[int](20)}, step{closing(1), err(0)}, step{open("/d/n", 6), ok(1)}, step{open("/x", 7), ok(4)},
	)
	w.sound(t)
}

func TestDescriptors(t *testing.T) { // P16.3: 16 at most, the least one that is free, each its own place
	w := small.ready(t)
	for fd := range 16 {
		w.play(t, step{open("/x", 7), ok(fd)})
	}
	w.play(t,
		step{open("/x", 7), no[int](29)}, step{open("/y", 7), no[int](29)}, step{open("/", 7), no[int](29)}, step{open("/y", 3), no[int](29)},
		step{open("/z/y", 3), no[int](29)}, step{open("/x", 0), no[int](25)}, step{open("", 7), no[int](25)}, step{open("/"+text(1, 28), 7), no[int](26)},
		step{stat("/y"), no[api.Stat](21)},
		step{write(3, "abcdef"), ok(6)}, step{read(15, 2), ok([]byte("ab"))}, step{read(15, 2), ok([]byte("cd"))}, step{read(0, 1), ok([]byte("a"))},
		step{closing(9), err(0)}, step{closing(9), err(30)}, step{closing(4), err(0)}, step{closing(12), err(0)},
		step{open("/x", 1), ok(4)}, step{read(4, 3), ok([]byte("abc"))}, step{open("/x", 1), ok(9)}, step{open("/y", 7), ok(12)}, step{open("/x", 1), no[int](29)},
	)
	for _, fd := range []int{-1, 16, 17, math.MaxInt, math.MinInt, 1 << 32} {
		w.play(t,
			step{closing(fd), err(30)}, step{read(fd, 1), no[[]byte](30)}, step{read(fd, -1), no[[]byte](30)}, step{write(fd, "a"), no[int](30)},
			step{write(fd, text(1, 1025)), no[int](30)}, step{seek(fd, 0, 0), no[int](30)}, step{seek(fd, -1, 7), no[int](30)},
			step{truncate(fd, 0), err(30)}, step{truncate(fd, -1), err(30)}, step{fsync(fd), err(30)},
		)
	}
	w.crash(t) // nothing was synced, and nothing is open
	for fd := range 16 {
		w.play(t, step{closing(fd), err(30)}, step{fsync(fd), err(30)})
	}
	w.play(t, step{list("/"), ok("")})
}

func TestReadAndWrite(t *testing.T) { // P16.4
	w := middle.ready(t)
	w.setUp(t, open("/x", 7))
	w.play(t,
		step{read(0, -1), no[[]byte](25)}, step{read(0, 1025), no[[]byte](25)}, step{read(0, math.MaxInt), no[[]byte](25)}, step{read(0, math.MinInt), no[[]byte](25)},
		step{read(0, 0), ok([]byte(nil))}, step{read(0, 1024), ok([]byte(nil))}, step{write(0, ""), ok(0)}, step{write(0, text(1, 1025)), no[int](25)},
		step{stat("/x"), ok(api.Stat{Ino: 1, Kind: 1, Links: 1})},
		step{write(0, text(1, 1024)), ok(1024)}, step{write(0, "tail"), ok(4)}, step{seek(0, 1000, 0), ok(1000)},
		step{read(0, 1024), ok([]byte(text(1, 1024)[1000:] + "tail"))}, step{seek(0, 0, 1), ok(1028)}, step{read(0, 5), ok([]byte(nil))},
		step{seek(0, 2000, 0), ok(2000)}, step{read(0, 5), ok([]byte(nil))}, step{seek(0, 0, 1), ok(2000)}, // what is beyond the end is not read, and no place is changed
		step{write(0, ""), ok(0)}, step{stat("/x"), ok(api.Stat{Ino: 1, Kind: 1, Links: 1, Size: 1028})},
		step{write(0, "far"), ok(3)}, step{seek(0, 1026, 0), ok(1026)}, step{read(0, 3), ok([]byte("il\x00"))},
		step{seek(0, 136190, 0), ok(136190)}, step{write(0, "abc"), no[int](28)}, step{seek(0, 0, 1), ok(136190)}, step{write(0, "ab"), ok(2)},
		step{write(0, "c"), no[int](28)}, step{write(0, ""), ok(0)}, step{stat("/x"), ok(api.Stat{Ino: 1, Kind: 1, Links: 1, Size: 136192})},
		step{read(0, 1), ok([]byte(nil))}, step{seek(0, -3, 1), ok(136189)}, step{read(0, 9), ok([]byte("\x00ab"))},
	)
	w.sound(t)
}

func TestSeek(t *testing.T) { // P16.4
	w := middle.ready(t)
	w.setUp(t, open("/x", 7), write(0, text(1, 700)), open("/x", 2))
	w.play(t,
		step{seek(1, 5, 0), ok(5)}, step{seek(1, 5, 1), ok(10)}, step{seek(1, -10, 1), ok(0)}, step{seek(1, -1, 1), no[int](25)}, step{seek(1, -1, 0), no[int](25)},
		step{seek(1, 5, 2), ok(705)}, step{seek(1, -700, 2), ok(0)}, step{seek(1, -701, 2), no[int](25)}, step{seek(1, 0, 1), ok(0)},
		step{seek(1, 136192, 0), ok(136192)}, step{seek(1, 1, 1), no[int](25)}, step{seek(1, 136193, 0), no[int](25)}, step{seek(1, -136192, 1), ok(0)},
		step{seek(1, 136192-700, 2), ok(136192)}, step{seek(1, 136192-699, 2), no[int](25)}, step{seek(1, -136193, 1), no[int](25)},
		step{seek(1, 0, 1), ok(136192)}, step{seek(1, 0, 3), no[int](25)}, step{seek(1, 0, -1), no[int](25)}, step{seek(1, 1, math.MaxInt), no[int](25)},
		step{seek(1, math.MaxInt, 1), no[int](25)}, step{seek(1, math.MinInt, 1), no[int](25)}, step{seek(1, math.MaxInt, 2), no[int](25)},
		step{seek(1, 0, 2), ok(700)}, step{seek(0, 0, 1), ok(700)}, step{stat("/x"), ok(api.Stat{Ino: 1, Kind: 1, Links: 1, Size: 700})},
		step{write(1, "a"), ok(1)}, step{seek(0, 0, 2), ok(701)},
	)
}

func TestTruncate(t *testing.T) { // P16.4
	free := middle.things()
	w := middle.ready(t)
	w.setUp(t, open("/x", 7), write(0, text(1, 1024)), write(0, text(2, 1024)))
	w.play(t,
		step{space(), ok(free - 18)}, // a block of the root, 16 and Single
		step{truncate(0, -1), err(25)}, step{truncate(0, math.MinInt), err(25)}, step{truncate(0, 136193), err(28)}, step{truncate(0, math.MaxInt), err(28)},
		step{stat("/x"), ok(api.Stat{Ino: 1, Kind: 1, Links: 1, Size: 2048})},
		step{truncate(0, 1025), err(0)}, step{space(), ok(free - 11)}, step{truncate(0, 1024), err(0)}, step{space(), ok(free - 9)},
		step{truncate(0, 100), err(0)}, step{space(), ok(free - 2)}, step{seek(0, 0, 1), ok(2048)}, step{truncate(0, 136192), err(0)},
		step{seek(0, 90, 0), ok(90)}, step{read(0, 20), ok([]byte(text(1, 1024)[90:100] + strings.Repeat("\x00", 10)))}, step{space(), ok(free - 2)},
		step{seek(0, 0, 2), ok(136192)}, step{truncate(0, 0), err(0)}, step{space(), ok(free - 1)}, step{stat("/x"), ok(api.Stat{Ino: 1, Kind: 1, Links: 1})},
	)
	w.sound(t)
}

// TestUnlinkedFiles: a file without names stays while it is open, and is freed behind that (P16.3, P16.5, P16.8).
func TestUnlinkedFiles(t *testing.T) {
	w := small.ready(t)
	free := small.things()
	w.play(t,
		step{open("/x", 7), ok(0)}, step{open("/x", 1), ok(1)}, step{write(0, text(1, 500)), ok(500)}, step{space(), ok(free - 5)},
		step{unlink("/x"), err(0)}, step{stat("/x"), no[api.Stat](21)}, step{space(), ok(free - 5)}, step{read(1, 4), ok([]byte(text(1, 4)))},
		step{write(0, "more"), ok(4)}, step{truncate(0, 502), err(0)}, step{seek(1, 0, 2), ok(502)}, step{fsync(0), err(0)},
		step{open("/x", 7), ok(2)}, step{stat("/x"), ok(api.Stat{Ino: 2, Kind: 1, Links: 1})}, // another file
		step{closing(0), err(0)}, step{space(), ok(free - 5)}, step{seek(1, 500, 0), ok(500)}, step{read(1, 4), ok([]byte("mo"))},
		step{mkdir("/d"), err(0)}, step{mkdir("/e"), err(27)}, // the file has its number yet
		step{closing(1), err(0)}, step{space(), ok(free - 1)}, step{mkdir("/e"), err(0)}, step{stat("/e"), ok(api.Stat{Ino: 1, Kind: 2, Links: 1})},
	)
	w.sound(t)
}

// TestReplacedFiles: as ahead, where another file takes the name.
func TestReplacedFiles(t *testing.T) {
	w := small.ready(t)
	free := small.things()
	w.play(t,
		step{open("/x", 7), ok(0)}, step{write(0, text(1, 200)), ok(200)}, step{open("/y", 7), ok(1)}, step{write(1, "why"), ok(3)}, step{space(), ok(free - 4)},
		step{rename("/y", "/x"), err(0)}, step{space(), ok(free - 4)}, step{seek(0, 198, 0), ok(198)}, step{read(0, 9), ok([]byte(text(1, 200)[198:]))},
		step{stat("/x"), ok(api.Stat{Ino: 2, Kind: 1, Links: 1, Size: 3})}, step{list("/"), ok("x")}, step{closing(0), err(0)}, step{space(), ok(free - 2)},
		step{link("/x", "/z"), err(0)}, step{unlink("/x"), err(0)}, step{closing(1), err(0)}, step{space(), ok(free - 2)},
		step{stat("/z"), ok(api.Stat{Ino: 2, Kind: 1, Links: 1, Size: 3})},
	)
	w.sound(t)
}

// TestWriteKeepsNothing: what is handed in is not kept, what is handed out is the caller's own (R3).
func TestWriteKeepsNothing(t *testing.T) {
	w := small.ready(t)
	w.setUp(t, open("/x", 7))
	b := make([]byte, 8, 300)
	copy(b, "original")
	for i := 8; i < 300; i++ {
		b[:300][i] = 'z'
	}
	n, e := w.f.Write(0, b)
	if n != 8 || e != api.OK || string(b[:9]) != "originalz" {
		t.Errorf("Write = %d, %d; %q", n, e, b[:9])
	}
	copy(b, "changed!")
	w.f.Seek(0, 0, 0)
	first, _ := w.f.Read(0, 20)
	if string(first) != "original" {
		t.Errorf("Read = %q", first)
	}
	copy(first, "changed!")
	w.f.Seek(0, 0, 0)
	if again, _ := w.f.Read(0, 20); !bytes.Equal(again, []byte("original")) {
		t.Errorf("Read = %q", again)
	}
	w.setUp(t, mkdir("/d"))
	l, _ := w.f.List("/")
	l[0] = "changed"
	w.play(t, step{list("/"), ok("d x")})
}

// TestTwoSystems: two that nothing joins know nothing of each other (R5).
func TestTwoSystems(t *testing.T) {
	a, b := small.ready(t), small.ready(t)
	a.setUp(t, open("/x", 7), write(0, "a"), mkdir("/a"))
	b.play(t, step{closing(0), err(30)}, step{list("/"), ok("")}, step{open("/x", 1), no[int](21)})
	b.setUp(t, open("/y", 7), write(0, "b"))
	a.play(t, step{list("/"), ok("a x")}, step{seek(0, 0, 0), ok(0)}, step{read(0, 9), ok([]byte("a"))})
}

func TestFilesAgainstPlain(t *testing.T) { // P16.3, P16.4, P16.8: what is written at all ends of what Direct, Single and Double name
	for _, at := range []int{0, 1, 127, 128, 900, 1023, 1024, 1025, 5000, 5119, 5120, 5121, 9215, 9216, 60000, 135168, 135169, 136191} {
		for _, n := range []int{1, 2, 128, 129, 1000, 1024} {
			both(t, wide, open("/x", 7), seek(0, at, 0), write(0, text(at, n)), stat("/x"), space(), seek(0, max(0, at-3), 0), read(0, 1024),
				truncate(0, at+n/2), space(), seek(0, at, 0), read(0, 1024), truncate(0, at), space())
		}
	}
}

func TestManyWrites(t *testing.T) { // P16.7: what has no room in a transaction commits those ahead
	var ops []op
	ops = append(ops, open("/x", 7))
	for i := range 60 {
		ops = append(ops, seek(0, i*997%5000, 0), write(0, text(i, 1024)), space())
	}
	for i := range 9 {
		ops = append(ops, mkdir(fmt.Sprint("/d", i)), rename(fmt.Sprint("/d", i), fmt.Sprint("/e", i)))
	}
	w, p := both(t, middle, append(ops, list("/"), sync())...)
	w.crash(t)
	sameImage(t, "behind a crash", w.image(t), p.crashed().image())
}
