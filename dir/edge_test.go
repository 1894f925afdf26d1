package dir

import (
	"fmt"
	"slices"
	"strings"
	"testing"

	"ashlar/api"
	"ashlar/inode"
	"ashlar/lay"
	"ashlar/sums"
)

// broken are places that are neither free nor an entry.
func broken() [][]byte {
	good := bytesOf(api.Entry{Ino: 7, Name: "x"})
	behind := slices.Clone(good)
	behind[31] = 1
	return [][]byte{
		behind, bytesOf(api.Entry{Ino: 0, Name: "x"}), bytesOf(api.Entry{Ino: 256, Name: "x"}), bytesOf(api.Entry{Ino: 7, Name: ".."}),
		bytesOf(api.Entry{Ino: 7, Name: ""}), []byte(strings.Repeat("\xff", 32)),
	}
}

func TestBrokenPlaces(t *testing.T) { // P15.2, P15.3
	a, c := api.Entry{Ino: 1, Name: "a"}, api.Entry{Ino: 3, Name: "c"}
	for _, bytes := range broken() {
		w := small.ready(t)
		w.write(t, 0, 0, slices.Concat(bytesOf(a), bytes, bytesOf(c), bytesOf(api.Entry{})[:27], make([]byte, 5)))
		finds(t, w.f, "a", 1, api.OK) // it looks up to the name
		finds(t, w.f, "c", 0, api.ErrCode)
		finds(t, w.f, "x", 0, api.ErrCode)
		slot(t, w.f, 0, api.ErrCode)
		lists(t, w.f, nil, api.ErrCode)
		is(t, "Add", Add(w.f, 0, api.Entry{Ino: 9, Name: "y"}), api.ErrCode)
		is(t, "Add", Add(w.f, 0, a), api.ErrExist)
		is(t, "Add", Add(w.f, 0, c), api.ErrCode)
		is(t, "Point", Point(w.f, 0, c), api.ErrCode)
		is(t, "Drop", Drop(w.f, 0, "c"), api.ErrCode)
		if l := w.j.Running(); len(l) != 0 {
			t.Errorf("calls that are refused write %v", l)
		}
		done(t, Point(w.f, 0, api.Entry{Ino: 8, Name: "a"}))
		finds(t, w.f, "a", 8, api.OK)
		done(t, Drop(w.f, 0, "a"))
		slot(t, w.f, 0, api.OK) // it looks up to that
		is(t, "Add", Add(w.f, 0, a), api.ErrCode)
		finds(t, w.f, "", 0, api.ErrCode) // a free place has no name
		is(t, "Drop", Drop(w.f, 0, ""), api.ErrCode)
	}
}

func TestBytesBehindTheLastPlace(t *testing.T) { // P15.2
	a := api.Entry{Ino: 1, Name: "a"}
	for n := 1; n < 32; n++ {
		w := small.ready(t)
		w.write(t, 0, 0, bytesOf(a))
		done(t, w.f.Cut(0, 128+n)) // free places, and a part of one
		finds(t, w.f, "a", 1, api.OK)
		finds(t, w.f, "b", 0, api.ErrCode)
		slot(t, w.f, 32, api.OK)
		lists(t, w.f, nil, api.ErrCode)
		is(t, "Add", Add(w.f, 0, api.Entry{Ino: 2, Name: "b"}), api.ErrCode)
		done(t, w.f.Cut(0, 32+n))
		slot(t, w.f, 0, api.ErrCode)
		done(t, Drop(w.f, 0, "a"))
		done(t, w.f.Cut(0, n))
		slot(t, w.f, 0, api.ErrCode)
	}
}

func TestHoles(t *testing.T) { // P15.2
	w := small.ready(t)
	done(t, w.f.Cut(0, 5120+128))
	lists(t, w.f, nil, api.OK)
	slot(t, w.f, 0, api.OK)
	far := api.Entry{Ino: 6, Name: "far"}
	w.write(t, 0, 5120+96, bytesOf(far))
	finds(t, w.f, "far", 6, api.OK)
	lists(t, w.f, []api.Entry{far}, api.OK)
	w.add(t, "near")
	slot(t, w.f, 32, api.OK)
	done(t, Drop(w.f, 0, "far"))
	lists(t, w.f, []api.Entry{{Ino: 1, Name: "near"}}, api.OK)
}

func TestANameThatStandsTwice(t *testing.T) { // P15.2, P15.3
	w := small.ready(t)
	a, b, again := api.Entry{Ino: 9, Name: "a"}, api.Entry{Ino: 2, Name: "0"}, api.Entry{Ino: 3, Name: "a"}
	w.write(t, 0, 0, slices.Concat(bytesOf(a), bytesOf(b), bytesOf(again)))
	finds(t, w.f, "a", 9, api.OK)
	lists(t, w.f, []api.Entry{b, a, again}, api.OK)
	done(t, Point(w.f, 0, api.Entry{Ino: 8, Name: "a"}))
	w.has(t, api.Entry{Ino: 8, Name: "a"}, b, again)
	done(t, Drop(w.f, 0, "a"))
	w.has(t, api.Entry{}, b, again)
	finds(t, w.f, "a", 3, api.OK)
}

func TestManyOfOneName(t *testing.T) { // P15.2: they are told in the order in which they stand
	w := small.ready(t)
	var all []byte
	var want []api.Entry
	for i := range 60 {
		x := api.Entry{Ino: 255 - i, Name: fmt.Sprint(1 - i%2)}
		all = append(all, bytesOf(x)...)
		if i%2 == 1 {
			want = append(want, x)
		}
	}
	for i := range 30 {
		want = append(want, api.Entry{Ino: 255 - 2*i, Name: "1"})
	}
	w.write(t, 0, 0, all)
	lists(t, w.f, want, api.OK)
}

func TestADirectoryThatIsFull(t *testing.T) { // P15.3
	w := big.ready(t)
	var all []byte
	var want []api.Entry
	for i := range 136192 / 32 {
		x := api.Entry{Ino: i%255 + 1, Name: fmt.Sprintf("n%05d", i)}
		want = append(want, x)
		all = append(all, bytesOf(x)...)
	}
	last := len(want) - 1
	w.write(t, 0, 0, all[:32*last])
	slot(t, w.f, 32*last, api.OK)
	done(t, Add(w.f, 0, want[last])) // the last place there is
	finds(t, w.f, want[last].Name, want[last].Ino, api.OK)
	slot(t, w.f, 136192, api.OK)
	lists(t, w.f, want, api.OK)
	done(t, w.j.Commit())
	is(t, "Add", Add(w.f, 0, api.Entry{Ino: 1, Name: "more"}), api.ErrFbig)
	is(t, "Add", Add(w.f, 0, want[last]), api.ErrExist)
	if l := w.j.Running(); len(l) != 0 {
		t.Errorf("calls that are refused write %v", l)
	}
	done(t, Drop(w.f, 0, want[2222].Name))
	slot(t, w.f, 32*2222, api.OK)
	done(t, Add(w.f, 0, api.Entry{Ino: 1, Name: "more"}))
	slot(t, w.f, 136192, api.OK)
}

func TestNoBlockIsFree(t *testing.T) { // P15.3, P15.5
	w := tight.ready(t) // 5 blocks, of 4 places each
	w.add(t, row(20)...)
	is(t, "Add", Add(w.f, 0, api.Entry{Ino: 1, Name: "more"}), api.ErrNospc)
	if l := w.j.Running(); len(l) != 0 {
		t.Errorf("Add that is refused writes %v", l)
	}
	slot(t, w.f, 640, api.OK)
	finds(t, w.f, "more", 0, api.ErrNoent)
	is(t, "Add", Add(w.f, 0, api.Entry{Ino: 1, Name: "n19"}), api.ErrExist)
	done(t, Point(w.f, 0, api.Entry{Ino: 99, Name: "n19"}))
	done(t, Drop(w.f, 0, "n7"))
	done(t, Add(w.f, 0, api.Entry{Ino: 1, Name: "more"}))
	slot(t, w.f, 640, api.OK)
	finds(t, w.f, "more", 1, api.OK)
}

func TestATransactionThatIsFull(t *testing.T) { // P15.3, R2
	for had := range 25 {
		for name, do := range deeds() {
			w := small.ready(t)
			w.add(t, row(8)...) // what is added needs a block: 4 blocks change
			for i := range had {
				done(t, w.j.Write(w.base()+20+i, make([]byte, 128)))
			}
			was := w.j.Saved()
			none, _ := do(nil, 0)
			needs := map[string]int{"Add": 3, "Point": 2, "Drop": 2}[name] // the bits, the table, and the entry's block
			told, e := do(w.f, 0)
			if needs > 24-had {
				is(t, fmt.Sprint(name, " with ", had), e, api.ErrFull)
				if told != none || fmt.Sprint(w.j.Saved()) != fmt.Sprint(was) {
					t.Errorf("%s is refused, but tells %s and writes %v", name, told, w.j.Running())
				}
				continue
			}
			is(t, fmt.Sprint(name, " with ", had), e, api.OK)
		}
	}
}

// bad lets a block of the volume be lacking, with another one of its stripe.
func (w *site) bad(t *testing.T, block int) {
	t.Helper()
	at, e := lay.Map(w.members, block)
	done(t, e)
	base, e := lay.Base(1)
	done(t, e)
	_, data, e := sums.Place(base + at.Stripe)
	done(t, e)
	for _, disk := range []int{at.Member, (at.Member + 1) % w.members} {
		done(t, w.s.Corrupt(disk, data, 17, 1))
	}
}

// sure lets the directory have so many names, and the blocks stand at their places.
func (x shape) sure(t *testing.T, names int) *site {
	t.Helper()
	w := x.ready(t)
	w.add(t, row(names)...)
	done(t, w.j.Checkpoint())
	w.crash(t)
	return w
}

func TestWhatCanNotBeReadIsTold(t *testing.T) { // P15.2, P15.3, P6
	for lost := range 5 { // the directory's blocks, with the names n0 to n19; the stripe has 3 of them
		w := narrow.sure(t, 20)
		w.bad(t, w.base()+lost)
		upTo := 5
		for i := range 5 {
			if _, e := w.j.Read(w.base() + i); e == api.ErrIo {
				upTo = min(upTo, i)
			}
		}
		if upTo > lost {
			t.Fatalf("the block %d can be read", lost)
		}
		for i, name := range row(20) {
			if i < 4*upTo {
				finds(t, w.f, name, i+1, api.OK)
				is(t, "Add", Add(w.f, 0, api.Entry{Ino: 9, Name: name}), api.ErrExist)
				done(t, Point(w.f, 0, api.Entry{Ino: i + 100, Name: name}))
				finds(t, w.f, name, i+100, api.OK)
			} else {
				finds(t, w.f, name, 0, api.ErrIo)
				is(t, "Add", Add(w.f, 0, api.Entry{Ino: 9, Name: name}), api.ErrIo)
				is(t, "Point", Point(w.f, 0, api.Entry{Ino: 9, Name: name}), api.ErrIo)
				is(t, "Drop", Drop(w.f, 0, name), api.ErrIo)
			}
		}
		lists(t, w.f, nil, api.ErrIo)
		slot(t, w.f, 0, api.ErrIo)
		is(t, "Add", Add(w.f, 0, api.Entry{Ino: 9, Name: "new"}), api.ErrIo)
		if upTo > 0 {
			done(t, Drop(w.f, 0, "n3"))
			slot(t, w.f, 96, api.OK) // ahead of what is lost
			is(t, "Add", Add(w.f, 0, api.Entry{Ino: 9, Name: "new"}), api.ErrIo)
		}
	}
}

func TestWhereThePowerGoesIsTold(t *testing.T) { // P15.2, P15.3, R2
	for name, do := range deeds() {
		right := small.sure(t, 20)
		want, e := do(right.f, 0)
		done(t, e)
		none, _ := do(nil, 0)
		refused := 0
		for n := range 60 {
			w := small.sure(t, 20)
			for i := range 9 { // the cache is full of blocks that are to be written before another one is read
				done(t, w.j.Write(w.base()+20+i, make([]byte, 128)))
			}
			done(t, w.j.Commit())
			w.s.Stop(n)
			told, e := do(w.f, 0)
			switch {
			case e == api.OK && (told != want || fmt.Sprint(w.j.Saved()) != fmt.Sprint(right.j.Saved())):
				t.Errorf("%s with power for %d = %s and writes %v", name, n, told, w.j.Running())
			case e == api.ErrOff && (told != none || len(w.j.Running()) != 0):
				t.Errorf("%s with power for %d is refused, but tells %s and writes %v", name, n, told, w.j.Running())
			case e == api.ErrOff:
				refused++
			case e != api.OK:
				t.Errorf("%s with power for %d = %d", name, n, e)
			}
		}
		if refused == 0 {
			t.Errorf("%s does without power", name)
		}
	}
}

func TestDirectoriesThatNoCallMakes(t *testing.T) { // P15.2, P1, R1
	base := small.base()
	for _, n := range []api.Inode{
		{Kind: 2, Size: 136192},
		{Kind: 2, Size: 136192, Direct: [8]int{65535}, Single: 65535, Double: 65535},
		{Kind: 2, Size: 136192, Direct: [8]int{base, base, base + 1}},
		{Kind: 2, Size: 136192, Direct: [8]int{1, 2, 3}, Single: 2, Double: 3}, // the bits, and the table
		{Kind: 2, Size: 136192, Single: base, Double: base},                    // itself
		{Kind: 2, Size: 7, Direct: [8]int{base}},
	} {
		w := small.ready(t)
		w.set(t, 0, n)
		for name, do := range deeds() {
			none, _ := do(nil, 0)
			told, e := do(w.f, 0)
			if e != api.OK && (told != none || len(w.j.Running()) != 0) {
				t.Errorf("%v: %s = %d, but tells %s and writes %v", n, name, e, told, w.j.Running())
			}
			w.j.Abort()
		}
	}
}

func TestWhatWasCommittedLasts(t *testing.T) { // P15.4
	w := small.ready(t)
	w.add(t, row(50)...)
	done(t, Drop(w.f, 0, "n31"))
	done(t, Point(w.f, 0, api.Entry{Ino: 222, Name: "n32"}))
	done(t, w.j.Commit())
	want, e := List(w.f, 0)
	done(t, e)
	done(t, Drop(w.f, 0, "n1"))
	done(t, w.s.Kill(2))
	w.crash(t)
	lists(t, w.f, want, api.OK)
	finds(t, w.f, "n32", 222, api.OK)
	finds(t, w.f, "n31", 0, api.ErrNoent)
	done(t, Add(w.f, 0, api.Entry{Ino: 7, Name: "new"}))
	w.j.Abort()
	lists(t, w.f, want, api.OK)
}

func TestABrokenTable(t *testing.T) { // P15.2
	w := small.ready(t)
	b, e := w.j.Read(w.table())
	done(t, e)
	b[1] = 1 // it is a nought else
	done(t, w.j.Write(w.table(), b))
	for name, do := range deeds() {
		_, e := do(w.f, 0)
		is(t, name, e, api.ErrCode)
	}
	var none *inode.Table
	is(t, "Drop", Drop(none, 0, ""), api.ErrClosed)
}
