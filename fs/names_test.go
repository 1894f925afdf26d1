package fs

import (
	"fmt"
	"strings"
	"testing"

	"ashlar/api"
)

func TestOnePath(t *testing.T) { // P16.5: all calls of a path, of all kinds of spots
	w, p := both(t, middle, tree()...)
	for _, path := range paths {
		for _, x := range []op{unlink(path), mkdir(path), rmdir(path), stat(path), list(path)} {
			w.kept(t, p, x)
		}
	}
}

func TestTwoPaths(t *testing.T) { // P16.5: all pairs of spots
	w, p := both(t, middle, tree()...)
	for _, from := range paths {
		for _, to := range paths {
			w.kept(t, p, link(from, to))
			w.kept(t, p, rename(from, to))
		}
	}
}

func TestNames(t *testing.T) { // P16.5, by hand: each error, in its order
	w := middle.ready(t)
	w.setUp(t, tree()...) // /f (1), /d (2), /d/g (3), /d/e (4), /d/h (1), /d/e/n (5), /o (6)
	long := "/" + strings.Repeat("n", 28)
	w.play(t,
		step{unlink("f"), err(25)}, step{unlink(long), err(26)}, step{unlink("/"), err(23)}, step{unlink("/x/y"), err(21)}, step{unlink("/f/y"), err(22)},
		step{unlink("/x"), err(21)}, step{unlink("/d"), err(23)}, step{unlink("/o"), err(23)},

		step{mkdir(""), err(25)}, step{mkdir("/d" + long), err(26)}, step{mkdir("/"), err(20)}, step{mkdir("/x/y"), err(21)}, step{mkdir("/f/y"), err(22)},
		step{mkdir("/f"), err(20)}, step{mkdir("/d"), err(20)}, step{mkdir("/d/h"), err(20)},

		step{rmdir("."), err(25)}, step{rmdir(long), err(26)}, step{rmdir("/"), err(25)}, step{rmdir("/x/y"), err(21)}, step{rmdir("/f/y"), err(22)},
		step{rmdir("/x"), err(21)}, step{rmdir("/f"), err(22)}, step{rmdir("/d"), err(24)}, step{rmdir("/d/e"), err(24)},

		step{link("f", long), err(25)}, step{link(long, "f"), err(26)}, step{link("/x", "f"), err(25)}, step{link("/x", long), err(26)},
		step{link("/", "/"), err(23)}, step{link("/", "/x/y"), err(23)}, step{link("/x", "/"), err(21)}, step{link("/x/y", "/f"), err(21)},
		step{link("/f/y", "/x/y"), err(22)}, step{link("/d", "/x/y"), err(23)}, step{link("/d", "/f/y"), err(23)}, step{link("/f", "/"), err(20)},
		step{link("/f", "/x/y"), err(21)}, step{link("/f", "/d/g/y"), err(22)}, step{link("/f", "/d"), err(20)}, step{link("/f", "/f"), err(20)},
		step{link("/f", "/d/h"), err(20)}, step{link("/f", "/d/e/i"), err(0)}, step{stat("/d/e/i"), ok(api.Stat{Ino: 1, Kind: 1, Links: 3, Size: 300})},

		step{rename("f", long), err(25)}, step{rename(long, "f"), err(26)}, step{rename("/x", "f"), err(25)}, step{rename("/x", long), err(26)},
		step{rename("/", "/x"), err(25)}, step{rename("/x", "/"), err(25)}, step{rename("/x/y", "/"), err(25)}, step{rename("/", "/x/y"), err(25)},
		step{rename("/x/y", "/f/y"), err(21)}, step{rename("/f/y", "/x/y"), err(22)}, step{rename("/x", "/x/y"), err(21)},
		step{rename("/d", "/d/x"), err(25)}, step{rename("/d", "/d/e/n"), err(25)}, step{rename("/d", "/d/g/y"), err(25)}, step{rename("/d", "/d/x/y"), err(25)},
		step{rename("/f", "/f/x"), err(22)}, step{rename("/o", "/x/y"), err(21)}, step{rename("/o", "/f/y"), err(22)},
		step{rename("/f", "/f"), err(0)}, step{rename("/d", "//d/"), err(0)}, step{rename("/f", "/d/h"), err(0)}, step{rename("/d/h", "/f"), err(0)},
		step{list("/d"), ok("e g h")}, step{list("/"), ok("d f o")}, // of the same file nothing is done
		step{rename("/f", "/o"), err(23)}, step{rename("/f", "/d"), err(23)}, step{rename("/o", "/f"), err(22)}, step{rename("/o", "/d"), err(24)},
		step{rename("/d/e/n", "/d/e"), err(24)}, step{rename("/d/g", "/d"), err(23)}, step{rename("/d/e/n", "/d"), err(24)},

		step{stat(""), no[api.Stat](25)}, step{stat(long), no[api.Stat](26)}, step{stat("/x/y"), no[api.Stat](21)}, step{stat("/f/y"), no[api.Stat](22)},
		step{stat("/x"), no[api.Stat](21)}, step{stat("/"), ok(api.Stat{Ino: 0, Kind: 2, Links: 1, Size: 96})},
		step{stat("/d/e/n"), ok(api.Stat{Ino: 5, Kind: 2, Links: 1})}, step{stat("/d/e"), ok(api.Stat{Ino: 4, Kind: 2, Links: 1, Size: 64})},
		step{list("x"), no[string](25)}, step{list(long), no[string](26)}, step{list("/x"), no[string](21)}, step{list("/f"), no[string](22)},
		step{list("/f/y"), no[string](22)}, step{list("/o"), ok("")},
	)
	w.sound(t)
}

func TestRename(t *testing.T) { // P16.5, by hand: what is moved, what is replaced
	w := middle.ready(t)
	w.setUp(t, tree()...)
	free, _ := w.f.Space()
	w.play(t,
		step{rename("/d/e", "/o/e"), err(0)}, step{list("/d"), ok("g h")}, step{list("/o"), ok("e")}, step{list("/o/e"), ok("n")}, step{space(), ok(free - 1)},
		step{rename("/o/e", "/a"), err(0)}, step{stat("/a"), ok(api.Stat{Ino: 4, Kind: 2, Links: 1, Size: 32})}, step{list("/"), ok("a d f o")},
		step{rename("/a", "/o"), err(0)}, step{list("/"), ok("d f o")}, step{list("/o"), ok("n")}, step{space(), ok(free)}, // the empty one is freed
		step{stat("/o"), ok(api.Stat{Ino: 4, Kind: 2, Links: 1, Size: 32})},
		step{rename("/d/g", "/f"), err(0)}, step{stat("/f"), ok(api.Stat{Ino: 3, Kind: 1, Links: 1, Size: 150})}, step{space(), ok(free)},
		step{stat("/d/h"), ok(api.Stat{Ino: 1, Kind: 1, Links: 1, Size: 300})}, // it had another name
		step{rename("/f", "/d/h"), err(0)}, step{space(), ok(free + 3)}, step{list("/d"), ok("h")}, step{list("/"), ok("d o")},
		step{mkdir("/new"), err(0)}, step{stat("/new"), ok(api.Stat{Ino: 1, Kind: 2, Links: 1})},
		step{rename("/d/h", "/d/i"), err(0)}, step{rename("/d/i", "/i"), err(0)}, step{rmdir("/d"), err(0)}, step{list("/"), ok("i new o")},
	)
	w.sound(t)
}

// TestPlaces: a name that is moved leaves its place ahead of the new one, a name that is replaced keeps its own (P16.5).
func TestPlaces(t *testing.T) {
	w := middle.ready(t)
	w.setUp(t, mkdir("/a"), mkdir("/b"), mkdir("/c"), mkdir("/d"))
	at := func(want ...string) {
		t.Helper()
		n, _ := w.f.table.Get(root)
		var got []string
		for _, x := range slots(t, w, root, n.Size) {
			got = append(got, x.name)
		}
		if strings.Join(got, ",") != strings.Join(want, ",") {
			t.Errorf("places %q, not %q", got, want)
		}
	}
	at("a", "b", "c", "d")
	w.setUp(t, rename("/b", "/e"))
	at("a", "e", "c", "d")
	w.setUp(t, rename("/d", "/a"))
	at("a", "e", "c", "")
	w.play(t, step{stat("/a"), ok(api.Stat{Ino: 4, Kind: 2, Links: 1})})
	w.setUp(t, rename("/a", "/c"))
	at("", "e", "c", "")
	w.setUp(t, rename("/c", "/z"))
	at("z", "e", "", "")
	w.setUp(t, mkdir("/y"), mkdir("/x"), mkdir("/w"))
	at("z", "e", "y", "x", "w")
	w.sound(t)
}

func TestDeepPaths(t *testing.T) { // P16.5: 16 names at most, of 27 bytes at most, and 255 bytes in all
	x := middle
	x.inodes = 20
	w := x.ready(t)
	p := ""
	for i := range 15 {
		p += fmt.Sprint("/", i)
		w.play(t, step{mkdir(p), err(0)})
	}
	w.play(t, step{open(p+"/x", 7), ok(0)}, step{open(p+"/x/y", 7), no[int](26)}, step{mkdir(p + "/d"), err(0)}, step{mkdir(p + "/d/e"), err(26)},
		step{rename("/0/1", "/b"), err(0)}, step{list("/b" + p[4:]), ok("d x")}, step{mkdir("/b" + p[4:] + "/d/e"), err(0)},
		step{rename("/b", "/0/1"), err(0)}, step{list(p), ok("d x")}, step{rmdir(p + "/d"), err(24)}) // what is too deep for a path stands there yet
	name := strings.Repeat("n", 27)
	w.play(t, step{mkdir("/" + name), err(0)}, step{stat("/" + name), ok(api.Stat{Ino: 19, Kind: 2, Links: 1})}, step{mkdir("/" + name + "n"), err(26)},
		step{list("/" + strings.Repeat("/", 254)), ok("0 " + name)}, step{list("/" + strings.Repeat("/", 255)), no[string](26)})
	w.sound(t)
}

func TestListOrder(t *testing.T) { // P16.5: byte by byte
	x := middle
	x.inodes = 40
	w := x.ready(t)
	for _, name := range []string{"b", "a", "\xff", "B", "ab", "a b", "\x01", "a\x7f", "é", "0", "10", "9", "-", "..."} {
		w.setUp(t, mkdir("/"+name))
	}
	w.play(t, step{list("/"), ok("\x01 - ... 0 10 9 B a a b ab a\x7f b é \xff")})
}

func TestLinks(t *testing.T) { // P16.5: 200 at most
	x := middle
	x.stripes = 200
	w := x.ready(t)
	w.setUp(t, open("/x", 7), write(0, "x"), mkdir("/d"))
	for i := range 199 {
		w.setUp(t, link("/x", fmt.Sprint("/d/", i)))
	}
	full := api.Stat{Ino: 1, Kind: 1, Links: 200, Size: 1}
	w.play(t, step{stat("/d/198"), ok(full)}, step{link("/x", "/y"), err(31)}, step{link("/d/7", "/d"), err(20)}, step{link("/d/7", "/d/8"), err(20)},
		step{link("/d/7", "/"), err(20)}, step{link("/d/7", "/z/y"), err(21)}, step{link("/d/7", "/x/y"), err(22)}, step{stat("/x"), ok(full)},
		step{rename("/d/3", "/y"), err(0)}, step{rename("/d/4", "/y"), err(0)}, step{list("/"), ok("d x y")}, // the same file
		step{unlink("/d/5"), err(0)}, step{link("/d/6", "/d/5"), err(0)}, step{link("/x", "/z"), err(31)})
	w.sound(t)
	w.setUp(t, closing(0), unlink("/y"), unlink("/x"))
	free, _ := w.f.Space()
	for i := range 199 {
		if i != 3 {
			w.setUp(t, unlink(fmt.Sprint("/d/", i)))
		}
	}
	w.play(t, step{list("/d"), ok("")}, step{space(), ok(free + 1)}, step{stat("/d"), ok(api.Stat{Ino: 2, Kind: 2, Links: 1, Size: 199 * 32})})
	w.sound(t)
}
