package inode

import (
	"fmt"
	"slices"
	"testing"

	"ashlar/api"
	"ashlar/lay"
	"ashlar/sums"
)

// A deed is a call of a table; it tells what the call answers.
type deed struct {
	name string
	do   func(f *Table) (string, api.Errno)
}

// deeds are calls about the file 0, which has the blocks 0 to 9 and 70 to 73, and about the places beside it.
func deeds() []deed {
	show := fmt.Sprint
	return []deed{
		{"Get", func(f *Table) (string, api.Errno) { n, e := f.Get(0); return show(n), e }},
		{"Set", func(f *Table) (string, api.Errno) { return "", f.Set(1, api.Inode{Kind: 1}) }},
		{"Free", func(f *Table) (string, api.Errno) { n, e := f.Free(); return show(n), e }},
		{"Blocks", func(f *Table) (string, api.Errno) { l, e := f.Blocks(0); return show(l), e }},
		{"Read", func(f *Table) (string, api.Errno) { b, e := f.Read(0, 0, 1024); return show(b), e }},
		{"Read behind", func(f *Table) (string, api.Errno) { b, e := f.Read(0, 71*128, 300); return show(b), e }},
		{"Read a hole", func(f *Table) (string, api.Errno) { b, e := f.Read(0, 20*128, 300); return show(b), e }},
		{"Need", func(f *Table) (string, api.Errno) { n, e := f.Need(0, 69*128, 1024); return show(n), e }},
		{"Write", func(f *Table) (string, api.Errno) { return "", f.Write(0, 9*128+5, text(3, 200)) }},
		{"Write over", func(f *Table) (string, api.Errno) { return "", f.Write(0, 5, text(4, 1000)) }},
		{"Write behind", func(f *Table) (string, api.Errno) { return "", f.Write(0, 70*128+9, text(5, 1000)) }},
		{"Write far", func(f *Table) (string, api.Errno) { return "", f.Write(0, 103*128, text(6, 200)) }},
		{"Cut", func(f *Table) (string, api.Errno) { return "", f.Cut(0, 0) }},
		{"Cut within", func(f *Table) (string, api.Errno) { return "", f.Cut(0, 9*128-3) }},
		{"Cut behind", func(f *Table) (string, api.Errno) { return "", f.Cut(0, 72*128-3) }},
		{"Cut longer", func(f *Table) (string, api.Errno) { return "", f.Cut(0, 90*128) }},
	}
}

// laid lets a table have that file, surely.
func laid(t *testing.T, x shape) *site {
	t.Helper()
	w := x.ready(t)
	w.file(t, 0)
	for _, at := range []int{0, 2, 70} {
		done(t, w.f.Write(0, at*128, text(at, 1024)))
		done(t, w.j.Commit())
	}
	done(t, w.f.Cut(0, 74*128-9))
	done(t, w.j.Commit())
	done(t, w.j.Checkpoint())
	w.crash(t)
	return w
}

// outcome is what a deed tells with nothing in its way, and what it writes.
type outcome struct {
	told   string
	writes []api.Write
}

func right(t *testing.T, x shape, d deed) outcome {
	t.Helper()
	w := laid(t, x)
	told, e := d.do(w.f)
	done(t, e)
	return outcome{told, w.j.Saved()}
}

// bad lets a block of the volume be lacking, with another one of its stripe.
func (w *site) bad(t *testing.T, block int) {
	t.Helper()
	at, e := lay.Map(w.members, block)
	done(t, e)
	base, e := lay.Base(1)
	done(t, e)
	_, data, e := sums.Place(base + at.Stripe)
	done(t, e)
	for _, disk := range []int{at.Member, (at.Member + 1) % w.members} {
		done(t, w.s.Corrupt(disk, data, 17, 1))
	}
}

// holds fails if a deed neither tells what is right nor is refused with nothing changed.
func (w *site) holds(t *testing.T, what string, d deed, want outcome, refused api.Errno) api.Errno {
	t.Helper()
	nothing, _ := d.do(nil)
	told, e := d.do(w.f)
	switch {
	case e == api.OK:
		if told != want.told || !alike(w.j.Saved(), want.writes) {
			t.Errorf("%s: %s = %s and writes %v, not %s", what, d.name, told, w.j.Running(), want.told)
		}
	case e != refused:
		t.Errorf("%s: %s = %d, not %d", what, d.name, e, refused)
	case told != nothing || len(w.j.Running()) != 0:
		t.Errorf("%s: %s is refused, but tells %s and writes %v", what, d.name, told, w.j.Running())
	}
	return e
}

// needed are the blocks that a deed can't do without.
func needed(w *site, d deed) []int {
	base, table := w.base(), w.table()
	single := base + 8
	double := base + 11 // and then what its entry 0 names, 70, 71, what its entry 1 names, 72, 73
	switch d.name {
	case "Get", "Set", "Free", "Cut longer":
		return []int{table}
	case "Blocks":
		return []int{table, single, double, base + 12, base + 15}
	case "Read":
		return []int{table, base, base + 1, base + 7}
	case "Read behind":
		return []int{table, double, base + 12, base + 15, base + 14, base + 16}
	case "Read a hole":
		return []int{table, single}
	case "Need":
		return []int{table, double, base + 12, base + 15}
	case "Write":
		return []int{1, table, single, base + 10}
	case "Write over":
		return []int{table, base, base + 7}
	case "Write behind":
		return []int{table, double, base + 12, base + 15, base + 13}
	case "Write far":
		return []int{1, table, double, base + 15}
	case "Cut":
		return []int{1, table, single, double, base + 12, base + 15}
	case "Cut within":
		return []int{1, table, single, double, base + 12, base + 15, base + 9}
	}
	return []int{1, table, double, base + 12, base + 15, base + 14} // Cut behind
}

func TestWhatCanNotBeReadIsTold(t *testing.T) { // P13.2, P13.3, R2, P6
	for _, d := range deeds() {
		want := right(t, narrow, d)
		for block := range narrow.base() + 20 {
			w := laid(t, narrow)
			must := slices.Contains(needed(w, d), block)
			w.bad(t, block)
			e := w.holds(t, fmt.Sprint("block ", block), d, want, api.ErrIo)
			if must && e == api.OK {
				t.Errorf("%s does without the block %d", d.name, block)
			}
		}
	}
}

func TestWhereThePowerGoesIsTold(t *testing.T) { // P13.2, P13.3, R2
	for _, d := range deeds() {
		want := right(t, small, d)
		refused := 0
		for n := range 60 {
			w := laid(t, small)
			// The cache is full of blocks that are to be written before another one is read.
			for i := range 9 {
				done(t, w.j.Write(82+i, text(i, 128)))
			}
			done(t, w.j.Commit())
			w.s.Stop(n)
			if e := w.holds(t, fmt.Sprint("with power for ", n), d, want, api.ErrOff); e != api.OK {
				refused++
			} else if !w.s.Off() {
				break
			}
		}
		if refused == 0 {
			t.Errorf("%s does without power", d.name)
		}
	}
}

func TestFilesThatNoCallMakes(t *testing.T) { // P13.3, P1, R1
	base := small.base()
	for _, n := range []api.Inode{
		{Kind: 1, Size: 136192, Direct: [8]int{65535}, Single: 65535, Double: 65535},
		{Kind: 1, Size: 136192, Direct: [8]int{base, base, base + 1}},                // twice
		{Kind: 1, Size: 136192, Direct: [8]int{base + 40}},                           // a free one
		{Kind: 1, Size: 136192, Direct: [8]int{1, 2, 3}, Single: 2, Double: 3},       // the bits, and the table
		{Kind: 2, Size: 136192, Single: base, Double: base},                          // itself
		{Kind: 2, Size: 136192, Direct: [8]int{small.ring()}, Single: small.ring()},  // the ring
		{Kind: 1, Size: 0, Direct: [8]int{7: base + 3}, Single: base + 1, Double: 0}, // no bytes
	} {
		w := small.ready(t)
		for range 10 {
			_, e := w.m.Take()
			done(t, e)
		}
		for i := range 10 { // each one names all blocks there are, and others
			b := make([]byte, 128)
			for k := range 32 {
				b[4*k] = byte(base + (i+k)%12)
				b[4*k+3] = byte(k / 31 * i)
			}
			done(t, w.j.Write(base+i, b))
		}
		done(t, w.f.Set(0, n))
		done(t, w.j.Commit())
		for _, d := range deeds() {
			nothing, _ := d.do(nil)
			told, e := d.do(w.f)
			switch {
			case e != api.OK && (told != nothing || len(w.j.Running()) != 0):
				t.Errorf("%v: %s = %d, but tells %s and writes %v", n, d.name, e, told, w.j.Running())
			case e != api.OK && e != api.ErrArg && e != api.ErrState:
				t.Errorf("%v: %s = %d", n, d.name, e)
			}
			w.j.Abort()
		}
	}
}

func TestAnEntryHasFourBytes(t *testing.T) { // P13.3
	for i := range 4 {
		w := small.ready(t)
		w.file(t, 0)
		done(t, w.f.Write(0, 1024, text(1, 128)))
		b, e := w.j.Read(w.base())
		done(t, e)
		b[i] ^= 0x80 // no block has that number
		done(t, w.j.Write(w.base(), b))
		if got, e := w.f.Read(0, 1024, 5); got != nil || e != api.ErrArg {
			t.Errorf("Read = %x, %d", got, e)
		}
		is(t, "Cut", w.f.Cut(0, 0), api.ErrArg)
		done(t, w.f.Cut(0, 1152)) // what is kept stays as it was
		if l, e := w.f.Blocks(0); e != api.OK || len(l) != 2 || l[1] != (w.base()+1)^0x80<<(8*i) {
			t.Errorf("Blocks = %v, %d", l, e)
		}
	}
}

func TestABlockThatIsNamedTwiceIsToldOnce(t *testing.T) { // P13.3
	w := small.ready(t)
	w.file(t, 0)
	done(t, w.f.Write(0, 7*128, text(1, 256))) // 7, and 8 by Single: the things 0, 1, 2
	n, e := w.f.Get(0)
	done(t, e)
	n.Direct[2], n.Direct[5] = n.Direct[7], n.Single
	done(t, w.f.Set(0, n))
	w.takes(t, 0, 0, 1, 2)
}

func TestWhatWasCommittedLasts(t *testing.T) { // P13.4
	w := laid(t, small)
	for _, d := range deeds() {
		_, e := d.do(w.f)
		done(t, e)
		w.j.Abort()
	}
	done(t, w.f.Write(0, 3*128+7, text(77, 500)))
	done(t, w.j.Commit())
	done(t, w.f.Cut(0, 0))
	done(t, w.s.Kill(2))
	w.crash(t)
	w.reads(t, 0, 3*128+7, 500, text(77, 500))
	want, _ := w.f.Read(0, 71*128, 1024)
	if got := slices.Concat(text(70, 1024)[128:503], nil); !slices.Equal(want, got) {
		t.Errorf("behind a crash stands %x, not %x", want, got)
	}
	l, e := w.f.Blocks(0)
	done(t, e)
	w.free(t, 60-len(l))
}

func TestAFileThatIsWrittenOverWhatNamesItsBlocks(t *testing.T) { // P13.3, R2
	w := small.ready(t)
	w.file(t, 0)
	done(t, w.f.Write(0, 39*128, text(1, 256))) // Single, 39, Double, its entry, 40: the things 0 to 4
	b, e := w.j.Read(w.base())
	done(t, e)
	b[4*31]++ // the block 39 is Double
	done(t, w.j.Write(w.base(), b))
	done(t, w.j.Commit())
	is(t, "Write", w.f.Write(0, 39*128, text(1, 256)), api.ErrArg)
	if l := w.j.Running(); len(l) != 0 {
		t.Errorf("Write that is refused writes %v", l)
	}
}
