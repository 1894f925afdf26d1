package fs

import (
	"fmt"
	"math/rand"
	"strings"
	"testing"

	"ashlar/api"
	"ashlar/raid"
)

// all are calls of all kinds, for the tree and what is open of it.
func all() []op {
	return []op{
		open("/f", 3), open("/new", 7), open("/d/g", 15), read(0, 9), write(0, "abc"), seek(0, 1, 2), seek(0, 1, 0), truncate(0, 7), unlink("/f"), mkdir("/m"),
		rmdir("/o"), link("/f", "/l"), rename("/f", "/m"), rename("/o", "/d/e"), stat("/d/e"), list("/d"), fsync(0), sync(), space(), closing(0),
	}
}

// TestNoPower: without power each call tells ErrOff, unless it needs no disk (P16.1).
func TestNoPower(t *testing.T) {
	x := narrow // of which nearly nothing is kept
	for _, o := range all() {
		w, p := x.ready(t), x.plain()
		w.calls(t, p, append(tree(), open("/f", 7), unlink("/f"), unlink("/d/h"), open("/f", 7), sync()))
		w.s.Stop(0)
		got := o.do(w.f)
		want := o.do(p.clone())
		switch {
		case got == want:
		case !strings.HasSuffix(got, ofError(api.ErrOff)):
			t.Errorf("%s without power = %s", o.what, got)
		}
		w.s.Crash(nil)
		w.mount(t)
		sameImage(t, o.what+" without power, and a crash", w.image(t), p.crashed().image())
	}
	w := x.ready(t)
	w.setUp(t, append(tree(), open("/f", 7), open("/d/g", 7), unlink("/d/g"), sync(), list("/d/e"))...)
	w.s.Stop(0)
	off := api.ErrOff
	w.play(t, step{sync(), err(0)}, step{fsync(0), err(0)}, // nothing is to be committed
		step{stat("/d/h"), no[api.Stat](off)}, step{list("/"), no[string](off)}, step{space(), no[int](off)}, step{read(0, 9), no[[]byte](off)},
		step{write(0, "abc"), no[int](off)}, step{truncate(0, 5), err(off)}, step{seek(0, 0, 2), no[int](off)}, step{seek(0, 0, 1), ok(0)},
		step{open("/f", 7), no[int](off)}, step{unlink("/f"), err(off)}, step{mkdir("/m"), err(off)}, step{rmdir("/o"), err(off)},
		step{link("/f", "/l"), err(off)}, step{rename("/f", "/l"), err(off)}, step{closing(1), err(off)}, step{seek(1, 5, 0), ok(5)}, // it stays open
		step{mkdir(""), err(25)}, step{mkdir("/"), err(20)}, step{rmdir("/"), err(25)}, step{unlink("/"), err(23)}, step{open("/", 7), no[int](23)},
		step{link("/", "/x"), err(23)}, step{rename("/", "/x"), err(25)}, step{rename("/f", "/"), err(25)}, step{open("/x", 0), no[int](25)},
		step{seek(0, 136193, 2), no[int](25)}, step{seek(0, -136193, 2), no[int](25)}, step{read(0, 1025), no[[]byte](25)}, step{truncate(0, -1), err(25)},
		step{write(0, text(1, 1025)), no[int](25)})
}

// TestSyncWithoutPower: what can't be committed is told, and is there yet (P16.1, P16.6).
func TestSyncWithoutPower(t *testing.T) {
	w := middle.ready(t)
	w.setUp(t, mkdir("/d"))
	w.s.Stop(3)
	w.play(t, step{sync(), err(3)}, step{sync(), err(3)}, step{list("/"), ok("d")}, step{mkdir("/e"), err(0)})
	w.crash(t)
	w.play(t, step{list("/"), ok("")})
}

// TestLacking: a block that can't be read, nor reckoned, is ErrIo of the calls that need it, and these change nothing (P16.1, P16.6).
func TestLacking(t *testing.T) {
	ahead := append(tree(), open("/f", 7), open("/d/h", 7), open("/d/g", 7), unlink("/d/g"), sync())
	ino := func(n int) int { return middle.table() + n/2 }
	for _, x := range []struct {
		block int
		steps []step
	}{
		{1, []step{{space(), no[int](10)}, {mkdir("/m"), err(10)}, {write(0, "abc"), no[int](10)}, {seek(0, 0, 1), ok(0)}, {truncate(0, 0), err(10)},
			{truncate(0, 299), err(0)}, {closing(2), err(10)}, {seek(2, 1, 0), ok(1)}, {unlink("/f"), err(10)}, {list("/"), ok("d f o")}}},
		{ino(1), []step{{list("/"), no[string](10)}, {stat("/f"), no[api.Stat](10)}, {read(0, 1), no[[]byte](10)}, {closing(0), err(0)}, {closing(1), err(10)}, {seek(1, 3, 0), ok(3)}}},
		{ino(2), []step{{list("/"), ok("d f o")}, {list("/d"), no[string](10)}, {stat("/d"), no[api.Stat](10)}, {rename("/d", "/x"), err(10)}, {rename("/f", "/d"), err(10)},
			{unlink("/d"), err(10)}, {rmdir("/d"), err(10)}, {open("/d", 3), no[int](10)}, {open("/d", 23), no[int](20)}, {mkdir("/d"), err(20)}, {mkdir("/m"), err(10)}, {rename("/f", "/m"), err(0)}}},
		{middle.base(), []step{{list("/"), no[string](10)}, {read(0, 1), ok([]byte(text(1, 1)))}, {open("/", 7), no[int](23)}}}, // the root's block
		{middle.base() + 1, []step{{read(0, 1), no[[]byte](10)}, {seek(0, 128, 0), ok(128)}, {read(0, 1), ok([]byte(text(1, 300)[128:129]))}, {truncate(0, 40), err(10)},
			{truncate(0, 128), err(0)}, {unlink("/f"), err(0)}, {closing(0), err(0)}}},
	} {
		w := middle.ready(t)
		w.setUp(t, ahead...)
		w.crashless(t)
		_, sectors := w.s.Size()
		lack(t, w, x.block, sectors)
		for _, s := range x.steps {
			files, blocks := w.f.files, fmt.Sprint(w.f.journal.Saved())
			if got := s.do(w.f); got != s.want {
				t.Errorf("without the block %d: %s = %s, not %s", x.block, s.what, got, s.want)
			}
			if strings.HasSuffix(s.want, ofError(0)) {
				continue
			}
			if files != w.f.files || fmt.Sprint(w.f.journal.Saved()) != blocks {
				t.Errorf("without the block %d: %s, which was refused, changed something", x.block, s.what)
			}
		}
	}
}

// crashless lets the cache forget all, and the volume have it; what is open stays so.
func (w *site) crashless(t *testing.T) {
	t.Helper()
	done(t, w.f.journal.Commit())
	done(t, w.f.journal.Checkpoint())
	l := layout{size: w.size(), inodes: w.inodes, ring: w.ring}
	f, e := l.open(w.v, w.most)
	done(t, e)
	f.files = w.f.files
	for n := range w.most + 1 { // and the blocks that an Open reads leave it
		f.journal.Read(w.base() + w.things() - 1 - n)
	}
	w.f = f
}

// TestBrokenFiles: bytes that no call writes are ErrIo, or something that may be, but no panic (P1, P16.1).
func TestBrokenFiles(t *testing.T) {
	entry := func(ino int, name string) string {
		return string([]byte{byte(ino), 0, 0, 0, byte(len(name))}) + name + strings.Repeat("\x00", 27-len(name))
	}
	w := middle.ready(t)
	w.setUp(t, append(tree(), mkdir("/b"))...) // the directory 7
	file := func(n api.Inode) { done(t, w.f.table.Set(8, n)) }
	done(t, w.f.table.Write(7, 0, []byte(entry(8, "h")+entry(77, "far")+entry(9, "free"))))
	file(api.Inode{Kind: 1, Links: 1, Size: 300, Direct: [8]int{65535, middle.size() - 3, middle.base() + middle.things() - 1}})
	w.play(t, step{open("/b/h", 3), ok(0)}, step{read(0, 9), no[[]byte](10)}, step{write(0, "a"), no[int](10)}, step{truncate(0, 0), err(10)},
		step{unlink("/b/h"), err(0)}, step{closing(0), err(10)}, step{stat("/b/far"), no[api.Stat](10)}, step{unlink("/b/far"), err(10)},
		step{list("/b/far"), no[string](10)}, step{link("/b/far", "/x"), err(10)}, step{rename("/b/far", "/f"), err(10)}, step{rename("/f", "/b/far"), err(10)},
		step{list("/b/free"), no[string](22)}, step{mkdir("/b/free/x"), err(22)}, step{unlink("/b/free"), err(10)}, step{open("/b/free", 15), no[int](10)},
		step{list("/b"), ok("far free")})
	done(t, w.f.table.Write(7, 96, []byte(entry(0, "root"))))
	w.play(t, step{list("/b"), no[string](10)}, step{stat("/b/none"), no[api.Stat](10)}, step{mkdir("/b/none"), err(10)}, step{rmdir("/b"), err(10)},
		step{rename("/o", "/b"), err(10)}, step{rename("/b", "/bb"), err(0)}, step{stat("/bb/far"), no[api.Stat](10)})
	done(t, w.f.table.Cut(7, 96))
	done(t, w.f.table.Cut(7, 95))
	w.play(t, step{list("/bb"), no[string](10)}, step{open("/f", 3), ok(1)}, step{open("/d/h", 3), ok(2)})
	done(t, w.f.journal.Write(w.table(), []byte(text(1, 128)))) // the root and /f
	w.play(t, step{read(1, 1), no[[]byte](10)}, step{write(1, "a"), no[int](10)}, step{seek(1, 0, 2), no[int](10)}, step{truncate(1, 0), err(10)},
		step{closing(1), err(0)}, step{closing(2), err(10)}, step{list("/"), no[string](10)}, step{stat("/"), no[api.Stat](10)}, step{stat("/f"), no[api.Stat](10)},
		step{open("/f", 3), no[int](10)}, step{mkdir("/m"), err(10)}, step{rename("/f", "/m"), err(10)})
}

// TestJunk: over volumes with bytes that no call writes all calls end, none panics, and no error from below is told (P1, P16.1).
func TestJunk(t *testing.T) {
	for seed := range int64(400) {
		r := rand.New(rand.NewSource(seed))
		w := middle.ready(t)
		w.setUp(t, append(tree(), sync())...)
		done(t, w.f.journal.Checkpoint())
		for range 1 + r.Intn(20) {
			junk(t, w, r)
		}
		v, e := raid.Open(w.s)
		done(t, e)
		f, e := Mount(v, w.most)
		if f == nil {
			if e != api.ErrIo && e != api.ErrInval {
				t.Errorf("Mount: %d", e)
			}
			continue
		}
		s := &storm{site: &site{shape: middle, s: w.s, v: v, f: f}, p: middle.plain(), r: r, t: t}
		for _, x := range append(tree(), all()...) {
			allowed(t, x, x.do(f))
		}
		for range 100 {
			x := s.op()
			allowed(t, x, x.do(f))
		}
	}
}

func allowed(t *testing.T, x op, got string) {
	t.Helper()
	var e int
	fmt.Sscanf(got[strings.LastIndex(got, "error "):], "error %d", &e)
	if e != 0 && e != 10 && (e < 20 || e > 31) {
		t.Errorf("%s = %s", x.what, got)
	}
}

// junk lets some bytes of the bits, the table, or what files have, be others; half of the time files that may be.
func junk(t *testing.T, w *site, r *rand.Rand) {
	t.Helper()
	if r.Intn(2) == 0 {
		n := api.Inode{Kind: 1 + r.Intn(2), Links: r.Intn(3), Size: r.Intn(r.Intn(136192) + 1), Single: r.Intn(w.size()), Double: r.Intn(3) * r.Intn(w.size())}
		for i := range n.Direct {
			n.Direct[i] = r.Intn(2) * (w.base() + r.Intn(20))
		}
		done(t, w.f.table.Set(r.Intn(w.inodes), n))
		done(t, w.f.journal.Commit())
		done(t, w.f.journal.Checkpoint())
		return
	}
	block := 1 + r.Intn(w.base()+15)
	b, e := w.v.Read(block)
	done(t, e)
	for range 1 + r.Intn(5) {
		b[r.Intn(128)] = byte(r.Intn(1 << r.Intn(9)))
	}
	done(t, w.v.Write(block, b))
}
