package fs

import (
	"fmt"
	"slices"
	"strings"
	"testing"

	"ashlar/api"
	"ashlar/maint"
)

// A scene is calls that are done and synced, and those in whose middle the power goes.
type scene struct {
	what       string
	ahead, cut []op
}

// scenes are all calls that change something, each of them alone and synced, and longer rows of them.
func scenes() []scene {
	files := append(tree(), sync())
	opened := append(tree(), open("/f", 7), open("/d/g", 7), write(1, text(9, 1000)), sync())
	var many, writes []op
	for i := range 5 {
		many = append(many, open(fmt.Sprint("/n", i), 7), write(2+i, text(i, 600)), rename(fmt.Sprint("/n", i), fmt.Sprint("/d/m", i)), mkdir(fmt.Sprint("/n", i)))
	}
	for i := range 7 {
		writes = append(writes, seek(0, 700*i, 0), write(0, text(i, 1024)))
	}
	orphan := append(slices.Clone(opened), unlink("/f"), unlink("/d/h"), unlink("/d/g"), sync())
	return []scene{
		{"Mkdir", files, []op{mkdir("/m"), sync()}},
		{"Mkdir below", files, []op{mkdir("/d/e/n/m"), sync()}},
		{"Rmdir", files, []op{rmdir("/o"), sync()}},
		{"Open", files, []op{open("/new", 7), fsync(0)}},
		{"Open that cuts", files, []op{open("/f", 15), fsync(0)}},
		{"Write", opened, []op{write(0, text(7, 1024)), fsync(1)}},
		{"Write far", opened, []op{seek(0, 5000, 0), write(0, text(7, 1024)), sync()}},
		{"Truncate", opened, []op{truncate(1, 77), sync()}},
		{"Unlink", files, []op{unlink("/d/g"), sync()}},
		{"Unlink of one of two", files, []op{unlink("/f"), sync()}},
		{"Unlink of what is open", opened, []op{unlink("/d/g"), sync()}},
		{"Close of what has no name", orphan, []op{closing(1), closing(0), sync()}},
		{"Link", files, []op{link("/f", "/o/l"), sync()}},
		{"Rename", files, []op{rename("/d/g", "/o/g"), sync()}},
		{"Rename over a file", files, []op{rename("/d/g", "/f"), sync()}},
		{"Rename over the last name", files, []op{rename("/f", "/d/g"), sync()}},
		{"Rename over what is open", opened, []op{rename("/f", "/d/g"), sync()}},
		{"Rename over a directory", files, []op{rename("/d/e", "/o"), sync()}},
		{"many", opened, append(many, sync(), unlink("/d/m1"))},
		{"writes without a Sync", opened, writes},
		{"nothing", opened, []op{sync(), sync(), fsync(0)}},
	}
}

// calls does calls till the power goes; it tells what the tree may be behind a crash then, and what all calls told.
func (w *site) calls(t *testing.T, p *plain, ops []op) ([]string, bool) {
	t.Helper()
	may := []string{p.crashed().image()}
	for _, x := range ops {
		got := x.do(w.f)
		if strings.HasSuffix(got, ofError(api.ErrOff)) {
			return may, false
		}
		if want := x.do(p); got != want {
			t.Fatalf("%s = %s, not %s", x.what, got, want)
		}
		if strings.HasPrefix(x.what, "Sync") || strings.HasPrefix(x.what, "Fsync") {
			may = nil
		}
		may = append(may, p.crashed().image())
	}
	return may, !w.s.Off()
}

// cuts plays a scene, with the power going behind so many writes: all small numbers of them, and some of the great ones.
func (x shape) cuts(t *testing.T, sc scene, kill func(w *site), behind func(w *site)) {
	t.Helper()
	for n := 0; ; n += 1 + n/25 {
		w, p := x.ready(t), x.plain()
		w.calls(t, p, sc.ahead)
		kill(w)
		w.s.Stop(n)
		may, whole := w.calls(t, p, sc.cut)
		for _, keep := range someKeeps(w.s) {
			again := w.s.Fork()
			again.Crash(keep)
			behind(&site{s: again})
			c := x.on(t, again)
			isOneOf(t, fmt.Sprintf("%s, the power gone behind %d writes", sc.what, n), c.image(t), may)
			c.sound(t)
		}
		if whole {
			return
		}
	}
}

func nothingDies(*site) {}

func TestCuts(t *testing.T) { // P16.7, P3: the power goes at any write of each call
	for _, x := range []shape{middle, narrow} {
		for _, sc := range scenes() {
			x.cuts(t, sc, nothingDies, nothingDies)
		}
	}
}

func TestCutsWithADeadMember(t *testing.T) { // P3, P4: the same, and a member dies ahead of the call, or behind the crash
	for i, sc := range scenes() {
		die := func(w *site) { done(t, w.s.Kill(i%middle.members)) }
		middle.cuts(t, sc, die, nothingDies)
		middle.cuts(t, sc, nothingDies, die)
	}
}

// TestNoRoom: what has no room in the running transaction commits what is ahead of it, without the call (P16.7).
func TestNoRoom(t *testing.T) {
	w := middle.ready(t)
	p := middle.plain()
	for _, x := range []op{open("/x", 7), write(0, text(1, 1024))} {
		x.do(w.f)
		x.do(p)
	}
	if n := len(w.f.journal.Running()); n < 10 || n > 24 {
		t.Fatalf("%d blocks run", n)
	}
	seq := w.f.journal.Seq()
	next := write(0, text(2, 1024)) // 8 blocks more, and Single
	w.play(t, step{next, ok(1024)})
	if got := w.f.journal.Seq(); got != seq {
		t.Fatal("a transaction with room was committed")
	}
	next.do(p)
	was := p.crashed().image()
	next = write(0, text(3, 1024))
	w.play(t, step{next, ok(1024)})
	if got := w.f.journal.Seq(); got != seq+1 {
		t.Fatalf("%d transactions were committed, not one", got-seq)
	}
	next.do(p)
	sameImage(t, "the tree", w.image(t), p.image())
	w.crash(t)
	sameImage(t, "behind a crash", w.image(t), was)
}

// full lets the running transaction have no room, by blocks that stand from one on; their bytes are others then.
func (w *site) full(t *testing.T, from int) {
	t.Helper()
	for i := range api.MaxTx {
		done(t, w.f.journal.Write(from+i, []byte(text(i, 128))))
	}
}

// TestNoRoomForAnyCall: the same, of each call that changes something.
func TestNoRoomForAnyCall(t *testing.T) {
	ahead := append(tree(), open("/f", 7), open("/d/g", 7), unlink("/d/g"), sync())
	for _, x := range []op{
		open("/new", 7), open("/f", 15), write(0, text(5, 1024)), truncate(0, 129), truncate(0, 700), unlink("/f"), unlink("/d/h"), mkdir("/d/e/m"), rmdir("/o"),
		link("/f", "/o/l"), rename("/f", "/o/f"), rename("/d/e/n", "/o"), closing(1),
	} {
		w, p := middle.ready(t), middle.plain()
		w.calls(t, p, ahead)
		was := p.crashed().image()
		w.full(t, w.base()+w.things()-api.MaxTx) // these are free
		seq := w.f.journal.Seq()
		if got, want := x.do(w.f), x.do(p); got != want {
			t.Errorf("%s = %s, not %s", x.what, got, want)
		}
		if got := w.f.journal.Seq(); got != seq+1 {
			t.Errorf("%s: %d transactions were committed, not one", x.what, got-seq)
		}
		if n := len(w.f.journal.Running()); n < 1 || n > 18 {
			t.Errorf("%s: %d blocks run", x.what, n)
		}
		sameImage(t, x.what, w.image(t), p.image())
		w.sound(t)
		w.crash(t)
		sameImage(t, x.what+", and a crash", w.image(t), was)
	}
}

// TestNoRoomAndRefused: what is refused behind that commit changes nothing (P16.6, P16.7).
func TestNoRoomAndRefused(t *testing.T) {
	w := middle.ready(t)
	w.setUp(t, open("/x", 7), link("/x", "/2"), link("/x", "/3"), link("/x", "/4"))
	for at := 0; ; at += 128 {
		w.setUp(t, seek(0, at, 0))
		if n, e := w.f.Write(0, []byte(text(at, 128))); n == 0 {
			is(t, "a Write without room", e, api.ErrNospc)
			break
		}
	}
	w.setUp(t, sync())
	w.full(t, w.base()+10) // these are the file's, behind its Single
	for _, x := range []step{{mkdir("/5"), err(27)}, {open("/5", 7), no[int](27)}, {link("/x", "/5"), err(27)}} {
		w.unchanged(t, x.op, x.want)
	}
	w.sound(t)
	w.play(t, step{rename("/4", "/5"), err(0)}, step{list("/"), ok("2 3 5 x")})
}

// TestNothingIsCommitted: no call but Sync and Fsync commits, as long as there is room (P16.7).
func TestNothingIsCommitted(t *testing.T) {
	w := middle.ready(t)
	seq := w.f.journal.Seq()
	w.setUp(t, mkdir("/d"), open("/d/x", 7), write(0, "hello"), link("/d/x", "/y"), rename("/y", "/z"), unlink("/d/x"), truncate(0, 3), closing(0),
		open("/z", 15), closing(0), stat("/z"), list("/"), space(), rmdir("/d"))
	if got := w.f.journal.Seq(); got != seq {
		t.Errorf("%d transactions were committed", got-seq)
	}
	w.setUp(t, sync(), sync())
	if got := w.f.journal.Seq(); got != seq+1 {
		t.Errorf("%d transactions were committed, not one", got-seq)
	}
}

// TestLasts: behind a Sync, or a Fsync of any file, all lasts (P16.7).
func TestLasts(t *testing.T) {
	for _, last := range []op{sync(), fsync(0), fsync(1)} {
		w := middle.ready(t)
		w.setUp(t, open("/x", 7), open("/y", 1|4), write(0, text(1, 1000)), mkdir("/d"), last)
		w.setUp(t, mkdir("/late"), write(0, "late"))
		w.crash(t)
		w.play(t, step{list("/"), ok("d x y")}, step{stat("/x"), ok(api.Stat{Ino: 1, Kind: 1, Links: 1, Size: 1000})}, step{read(0, 1), no[[]byte](30)},
			step{open("/x", 3), ok(0)}, step{read(0, 1024), ok([]byte(text(1, 1000)))})
	}
}

// TestExamples are those of DOC.md.
func TestExamples(t *testing.T) {
	type happening struct{ do func(w *site) string }
	call := func(x op) happening { return happening{func(w *site) string { return x.do(w.f) }} }
	crash := happening{func(w *site) string { w.s.Crash(nil); w.f = nil; return err(0) }}
	mount := happening{func(w *site) string { w.mount(t); return err(0) }}
	kill := func(d int) happening { return happening{func(w *site) string { return ofError(w.s.Kill(d)) }} }
	stop := happening{func(w *site) string { w.s.Stop(0); return err(0) }}
	keeper := func(w *site) *maint.Keeper { k, _ := maint.New(w.v); return k }
	tick := happening{func(w *site) string { return answer(keeper(w).Tick()) }}
	rebuild := happening{func(w *site) string { return ofError(keeper(w).Begin()) }}
	for i, ex := range []struct {
		steps []happening
		want  string
	}{
		{[]happening{call(mkdir("/d")), call(list("/"))}, err(0) + "; " + ok("d")},
		{[]happening{call(open("/x", 7)), call(write(0, "hello")), call(seek(0, 1, 0)), call(read(0, 9))}, ok(0) + "; " + ok(5) + "; " + ok(1) + "; " + ok([]byte("ello"))},
		{[]happening{call(open("/x", 7)), call(write(0, "hello")), crash, mount, call(stat("/x"))}, ok(0) + "; " + ok(5) + "; " + err(0) + "; " + err(0) + "; " + no[api.Stat](21)},
		{[]happening{call(open("/x", 7)), call(write(0, "hello")), call(fsync(0)), crash, mount, call(stat("/x"))}, ok(0) + "; " + ok(5) + "; " + err(0) + "; " + err(0) + "; " + err(0) + "; " + ok(api.Stat{Ino: 1, Kind: 1, Links: 1, Size: 5})},
		{[]happening{call(mkdir("/d")), call(sync()), kill(1), crash, mount, call(list("/"))}, strings.Repeat(err(0)+"; ", 5) + ok("d")},
		{[]happening{kill(1), rebuild, tick, tick}, err(0) + "; " + err(0) + "; " + ok(1) + "; " + ok(1)},
		{[]happening{tick, rebuild}, ok(2) + "; " + err(7)},
		{[]happening{call(mkdir("/a")), call(mkdir("/a/b")), call(rename("/a", "/a/b/c"))}, err(0) + "; " + err(0) + "; " + err(25)},
		{[]happening{call(open("/x", 7)), call(unlink("/x")), call(write(0, "q")), call(closing(0)), call(stat("/x"))}, ok(0) + "; " + err(0) + "; " + ok(1) + "; " + err(0) + "; " + no[api.Stat](21)},
		{[]happening{stop, call(mkdir("/d")), call(sync()), crash, mount, call(list("/"))}, err(0) + "; " + err(0) + "; " + err(3) + "; " + err(0) + "; " + err(0) + "; " + ok("")},
	} {
		w := small.ready(t)
		var told []string
		for _, x := range ex.steps {
			told = append(told, x.do(w))
		}
		if got := strings.Join(told, "; "); got != ex.want {
			t.Errorf("example %d: %s, not %s", i+1, got, ex.want)
		}
	}
}
