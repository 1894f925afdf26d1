package raid

import (
	"math/rand"
	"testing"

	"ashlar/api"
	"ashlar/shelf"
)

// A cut is a call in whose middle the power goes, with what is ahead of it.
type cut struct {
	what  string
	begin func(t *testing.T) (*shelf.Shelf, *Volume)
	call  func(t *testing.T, s *shelf.Shelf, v *Volume) api.Errno
}

// behind is a full array to which something happened.
func behind(x shape, what func(t *testing.T, s *shelf.Shelf, v *Volume)) func(t *testing.T) (*shelf.Shelf, *Volume) {
	return func(t *testing.T) (*shelf.Shelf, *Volume) {
		s, v := x.full(t)
		what(t, s, v)
		return s, v
	}
}

func nothing(*testing.T, *shelf.Shelf, *Volume) {}

func isWritten(n int) func(*testing.T, *shelf.Shelf, *Volume) {
	return func(t *testing.T, _ *shelf.Shelf, v *Volume) { done(t, v.Write(n, text(1))) }
}

func isDead(disk int) func(*testing.T, *shelf.Shelf, *Volume) {
	return func(t *testing.T, s *shelf.Shelf, _ *Volume) { done(t, s.Kill(disk)) }
}

func isBad(disk, block int) func(*testing.T, *shelf.Shelf, *Volume) {
	return func(t *testing.T, s *shelf.Shelf, _ *Volume) { turn(t, s, disk, block) }
}

func hasSpare(t *testing.T, _ *shelf.Shelf, v *Volume) { done(t, v.Save(1, 2, 0)) }

func both(a, b func(*testing.T, *shelf.Shelf, *Volume)) func(*testing.T, *shelf.Shelf, *Volume) {
	return func(t *testing.T, s *shelf.Shelf, v *Volume) {
		a(t, s, v)
		b(t, s, v)
	}
}

func writes(n int) func(*testing.T, *shelf.Shelf, *Volume) api.Errno {
	return func(_ *testing.T, _ *shelf.Shelf, v *Volume) api.Errno { return v.Write(n, text(2)) }
}

func flushes(_ *testing.T, _ *shelf.Shelf, v *Volume) api.Errno { return v.Flush() }

func mendsOf(stripe int) func(*testing.T, *shelf.Shelf, *Volume) api.Errno {
	return func(t *testing.T, _ *shelf.Shelf, v *Volume) api.Errno {
		n, e := v.Mend(stripe)
		if e != api.OK && n != 0 {
			t.Errorf("Mend tells %d beside an error", n)
		}
		return e
	}
}

func fills(stripe int) func(*testing.T, *shelf.Shelf, *Volume) api.Errno {
	return func(_ *testing.T, _ *shelf.Shelf, v *Volume) api.Errno { return v.Fill(stripe) }
}

func saves(_ *testing.T, _ *shelf.Shelf, v *Volume) api.Errno { return v.Save(2, 1, 3) }

func reads(n int) func(*testing.T, *shelf.Shelf, *Volume) api.Errno {
	return func(t *testing.T, _ *shelf.Shelf, v *Volume) api.Errno {
		b, e := v.Read(n)
		if e != api.OK && b != nil {
			t.Error("Read tells something beside an error")
		}
		return e
	}
}

func opens(t *testing.T, s *shelf.Shelf, _ *Volume) api.Errno {
	v, e := Open(s)
	if e != api.OK {
		isNil(t, "Open", v)
	}
	return e
}

func creates(t *testing.T, s *shelf.Shelf, _ *Volume) api.Errno {
	v, e := Create(s, 4, 5, 2)
	if e != api.OK {
		isNil(t, "Create", v)
	}
	return e
}

// cuts are of an array of 4 members, the stripe 1 of which has its data on the disks 3, 0, 1 and its parity on the disk 2.
func cuts() []cut {
	x := shape{4, 5, 1, true}
	at := x.base() + 1
	lone := func(s func(t *testing.T) *shelf.Shelf) func(t *testing.T) (*shelf.Shelf, *Volume) {
		return func(t *testing.T) (*shelf.Shelf, *Volume) { return s(t), nil }
	}
	return []cut{
		{"a Create", lone(func(t *testing.T) *shelf.Shelf { return shape{4, 5, 2, true}.shelf(t) }), creates},
		{"a Create over anything", lone(func(t *testing.T) *shelf.Shelf {
			return dirty(t, 5, 14, rand.New(rand.NewSource(8)))
		}), creates},
		{"an Open", behind(x, nothing), opens},
		{"an Open of disks of which one is ahead", lone(func(t *testing.T) *shelf.Shelf { return lagging(t, x) }), opens},
		{"an Open with records", lone(func(t *testing.T) *shelf.Shelf { return torn(t, x, 1) }), opens},
		{"an Open with records, a member dead", lone(func(t *testing.T) *shelf.Shelf {
			s := torn(t, x, 1)
			done(t, s.Kill(0))
			return s
		}), opens},
		{"a Write", behind(x, nothing), writes(4)},
		{"a Write of an open stripe", behind(x, isWritten(3)), writes(4)},
		{"a Write with a full log", behind(shape{4, 6, 1, true}, isWritten(16)), writes(4)},
		{"a Write with the disk dead", behind(x, isDead(0)), writes(4)},
		{"a Write with the parity's dead", behind(x, isDead(2)), writes(4)},
		{"a Write with another one's dead", behind(x, isDead(1)), writes(4)},
		{"a Write of an open stripe, the disk dead", behind(x, both(isWritten(3), isDead(0))), writes(4)},
		{"a Write of a bad block", behind(x, isBad(0, at)), writes(4)},
		{"a Write with a bad parity", behind(x, isBad(2, at)), writes(4)},
		{"a Write with another one bad", behind(x, isBad(1, at)), writes(4)},
		{"a Flush", behind(x, nothing), flushes},
		{"a Flush with slots", behind(x, both(isWritten(3), isWritten(6))), flushes},
		{"a Flush with slots, and a dead disk", behind(x, both(isWritten(3), isDead(0))), flushes},
		{"a Mend of a bad block", behind(x, isBad(0, at)), mendsOf(1)},
		{"a Mend of a parity", behind(x, func(t *testing.T, s *shelf.Shelf, _ *Volume) { put(t, s, 2, at, text(9)) }), mendsOf(1)},
		{"a Mend of a bad block, in an open array", behind(x, both(isWritten(6), isBad(0, at))), mendsOf(1)},
		{"a Fill", behind(x, hasSpare), fills(2)},
		{"a Fill in an open array", behind(x, both(hasSpare, isWritten(6))), fills(2)},
		{"a Save", behind(x, nothing), saves},
		{"a Save in an open array", behind(x, isWritten(6)), saves},
		{"a Read of a bad block", behind(x, isBad(0, at)), reads(4)},
	}
}

// cutAt calls with the power off behind so many writes and flushes; false: they were enough.
func (c cut) cutAt(t *testing.T, n int) (api.Errno, bool) {
	t.Helper()
	s, v := c.begin(t)
	s.Stop(n)
	e := c.call(t, s, v)
	return e, s.Off()
}

func TestEachCallTellsThatThePowerWent(t *testing.T) { // P8.1 to P8.4, P8.6, R2
	for _, c := range cuts() {
		t.Run(c.what, func(t *testing.T) {
			for n, off := 0, true; off; n++ {
				var e api.Errno
				if e, off = c.cutAt(t, n); !off {
					is(t, "with power", e, api.OK)
					continue
				}
				want := api.ErrOff
				if _, more := c.cutAt(t, n+1); !more { // the power went behind the last one
					want = api.OK
				}
				is(t, "the power off", e, want)
			}
		})
	}
}
