package fs

import (
	"fmt"
	"testing"

	"ashlar/api"
)

// unchanged fails if a refused call changed something: the tree, what is open, or what runs.
func (w *site) unchanged(t *testing.T, x op, want string) {
	t.Helper()
	blocks, files := fmt.Sprint(w.blocks(t)), w.f.files
	var places [api.MaxFds]file
	for fd, h := range files {
		if h != nil {
			places[fd] = *h
		}
	}
	if got := x.do(w.f); got != want {
		t.Errorf("%s = %s, not %s", x.what, got, want)
	}
	if fmt.Sprint(w.blocks(t)) != blocks {
		t.Errorf("%s, which was refused, changed blocks", x.what)
	}
	for fd, h := range w.f.files {
		if h != files[fd] || h != nil && *h != places[fd] {
			t.Errorf("%s, which was refused, changed the descriptor %d", x.what, fd)
		}
	}
}

func TestNoNumbers(t *testing.T) { // P16.6: the least free number of a file; ErrNospc, if there is none
	w := small.ready(t)
	w.play(t, step{mkdir("/a"), err(0)}, step{open("/b", 7), ok(0)}, step{mkdir("/c"), err(0)})
	w.unchanged(t, mkdir("/d"), err(27))
	w.unchanged(t, open("/d", 7), no[int](27))
	w.unchanged(t, mkdir("/c/d"), err(27))
	w.unchanged(t, mkdir("/b"), err(20))
	w.play(t, step{open("/b", 7), ok(1)}, step{closing(1), err(0)}, step{rename("/a", "/d"), err(0)}, step{link("/b", "/a"), err(0)},
		step{rmdir("/d"), err(0)}, step{open("/d", 23), ok(1)}, step{stat("/d"), ok(api.Stat{Ino: 1, Kind: 1, Links: 1})})
	w.sound(t)
}

func TestNoBlocks(t *testing.T) { // P16.6: 9 blocks for files
	w := tight.ready(t)
	w.play(t, step{space(), ok(9)}, step{open("/x", 7), ok(0)}, step{space(), ok(8)}, step{write(0, text(1, 896)), ok(896)}, step{space(), ok(1)})
	w.unchanged(t, write(0, text(2, 129)), no[int](27))
	w.unchanged(t, write(0, text(2, 1024)), no[int](27))
	w.play(t, step{seek(0, 896, 0), ok(896)}, step{write(0, text(2, 128)), ok(128)}, step{space(), ok(0)})
	w.unchanged(t, write(0, "a"), no[int](27))
	w.play(t, step{link("/x", "/2"), err(0)}, step{link("/x", "/3"), err(0)}, step{link("/x", "/4"), err(0)}, step{stat("/"), ok(api.Stat{Kind: 2, Links: 1, Size: 128})})
	w.unchanged(t, link("/x", "/5"), err(27)) // the root has no free place
	w.unchanged(t, mkdir("/5"), err(27))
	w.unchanged(t, open("/5", 7), no[int](27))
	w.play(t, step{rename("/2", "/5"), err(0)}, step{unlink("/3"), err(0)}, step{mkdir("/d"), err(0)})
	w.unchanged(t, rename("/4", "/d/4"), err(27))
	w.unchanged(t, link("/4", "/d/4"), err(27))
	w.unchanged(t, open("/d/4", 7), no[int](27))
	w.play(t, step{truncate(0, 1000), err(0)}, step{truncate(0, 896), err(0)}, step{rename("/4", "/d/4"), err(0)}, step{space(), ok(0)}, step{list("/d"), ok("4")})
	w.play(t, step{write(0, ""), ok(0)}, step{open("/d/4", 15), ok(1)}, step{space(), ok(7)})
	w.sound(t)
}

// TestFullDirectory: a directory has 4256 places at most (P16.6); here it is laid by hand.
func TestFullDirectory(t *testing.T) {
	x := shape{members: 16, stripes: 100, logs: 8, inodes: 256, ring: 28, most: 1024}
	w := x.ready(t)
	w.setUp(t, mkdir("/d"), open("/d/0", 7), mkdir("/e"), mkdir("/e/f"))
	for k := 1; k < 4256; k++ {
		ino := 5 + k%250
		b := make([]byte, 32)
		name := fmt.Sprint(k)
		b[0], b[4] = byte(ino), byte(len(name))
		copy(b[5:], name)
		if k < 1+250 {
			done(t, w.f.whole(func() api.Errno { return w.f.table.Set(ino, api.Inode{Kind: 1, Links: (4255-k)/250 + 1}) }))
		}
		done(t, w.f.whole(func() api.Errno { return w.f.table.Write(1, 32*k, b) }))
	}
	w.setUp(t, sync())
	w.sound(t)
	w.play(t, step{stat("/d"), ok(api.Stat{Ino: 1, Kind: 2, Links: 1, Size: 136192})}, step{link("/d/0", "/z"), err(0)})
	w.unchanged(t, link("/d/0", "/d/z"), err(28))
	w.unchanged(t, rename("/z", "/d/z"), err(28))
	w.unchanged(t, rename("/e/f", "/d/z"), err(28))
	w.unchanged(t, open("/d/z", 7), no[int](28))
	w.unchanged(t, mkdir("/d/z"), err(28))
	w.play(t, step{rename("/d/4255", "/d/z"), err(0)}, step{rename("/d/17", "/z"), err(0)}, step{mkdir("/d/17"), err(0)})
	w.unchanged(t, rename("/d/18", "/d/17"), err(23))
	w.sound(t)
}

// TestRefusedChangesNothing: all calls of the table of refusals, and what a call that has no room left of a transaction (P16.6).
func TestRefusedChangesNothing(t *testing.T) {
	w := middle.ready(t)
	w.setUp(t, append(tree(), open("/f", 1), open("/d/g", 2))...)
	for _, x := range []step{
		{open("/f", 23), no[int](20)}, {open("/d", 15), no[int](23)}, {open("/x", 3), no[int](21)}, {open("/f/x", 7), no[int](22)},
		{closing(7), err(30)}, {read(1, 9), no[[]byte](30)}, {read(0, 1025), no[[]byte](25)}, {write(0, "x"), no[int](30)},
		{write(1, text(1, 1025)), no[int](25)}, {seek(0, -1, 0), no[int](25)}, {truncate(0, 0), err(30)}, {truncate(1, 136193), err(28)},
		{unlink("/d"), err(23)}, {mkdir("/f"), err(20)}, {rmdir("/d"), err(24)}, {link("/f", "/d/g"), err(20)}, {rename("/d", "/d/x"), err(25)},
		{rename("/f", "/o"), err(23)}, {rename("/o", "/f"), err(22)}, {rename("/o", "/d"), err(24)},
	} {
		w.unchanged(t, x.op, x.want)
	}
}
