package maint

import (
	"math"
	"slices"
	"testing"

	"ashlar/api"
	"ashlar/shelf"
)

// A tock is a tick behind some deeds, of an array of 4 members and 3 stripes: the spare is the disk 4,
// and the stripe 0 has its parity on the member 3.
type tock struct {
	what   string
	deeds  []deed
	did    int
	want   api.Errno
	saves  bool
	stand  stand
	mended int
	often  float64
}

func scrubs() []tock {
	nan := math.NaN()
	return []tock{
		{"nothing is bad", nil, Scrubbed, api.OK, true, stand{-1, 0, 1}, 0, 0},
		{"the last stripe", []deed{ticks(2)}, Scrubbed, api.OK, true, first, 0, 0},
		{"something waits", []deed{writes(0), writes(5)}, Scrubbed, api.OK, true, stand{-1, 0, 1}, 0, 0},
		{"the member 0's is bad", []deed{turns(0, 0)}, Scrubbed, api.OK, true, stand{-1, 0, 1}, 1, 1},
		{"the member 1's is bad", []deed{turns(0, 1)}, Scrubbed, api.OK, true, stand{-1, 0, 1}, 1, 1},
		{"the member 2's is bad", []deed{turns(0, 2)}, Scrubbed, api.OK, true, stand{-1, 0, 1}, 1, 1},
		{"the parity is bad", []deed{turns(0, 3)}, Scrubbed, api.OK, true, stand{-1, 0, 1}, 1, 1},
		{"the parity does not go", []deed{strays(0, 3)}, Scrubbed, api.OK, true, stand{-1, 0, 1}, 1, 1},
		{"another stripe's is bad", []deed{turns(1, 1)}, Scrubbed, api.OK, true, stand{-1, 0, 1}, 0, 0},
		{"the spare's is bad", []deed{turns(0, 4)}, Scrubbed, api.OK, true, stand{-1, 0, 1}, 0, 0},
		{"bad behind a good one", []deed{ticks(1), turns(1, 1)}, Scrubbed, api.OK, true, stand{-1, 0, 2}, 1, 0.25},
		{"good behind a bad one", []deed{turns(0, 1), ticks(1)}, Scrubbed, api.OK, true, stand{-1, 0, 2}, 1, 0.75},
		{"two are bad", []deed{turns(0, 0), turns(0, 2)}, Idle, api.ErrIo, true, stand{-1, 0, 1}, 0, nan},
		{"a block and the parity are bad", []deed{turns(0, 1), turns(0, 3)}, Idle, api.ErrIo, true, stand{-1, 0, 1}, 0, nan},
		{"all are bad", []deed{turns(0, 0), turns(0, 1), turns(0, 2), turns(0, 3)}, Idle, api.ErrIo, true, stand{-1, 0, 1}, 0, nan},
		{"two of the last stripe are bad", []deed{ticks(2), turns(2, 0), turns(2, 1)}, Idle, api.ErrIo, true, first, 0, 0},
		{"one is bad, one dead", []deed{turns(0, 1), dies(2)}, Idle, api.ErrIo, true, stand{-1, 0, 1}, 0, nan},
		{"one is dead", []deed{dies(2)}, Scrubbed, api.OK, true, stand{-1, 0, 1}, 0, 0},
		{"two are dead", []deed{dies(2, 0)}, Scrubbed, api.OK, true, stand{-1, 0, 1}, 0, 0},
		{"all are dead", []deed{dies(0, 1, 2, 3, 4)}, Scrubbed, api.OK, true, stand{-1, 0, 1}, 0, 0},
		{"one is dead, another stripe's is bad", []deed{dies(2), turns(1, 0)}, Scrubbed, api.OK, true, stand{-1, 0, 1}, 0, 0},
		{"the spare is dead", []deed{dies(4)}, Scrubbed, api.OK, true, stand{-1, 0, 1}, 0, 0},
		{"no power", []deed{stops(0)}, Idle, api.ErrOff, false, first, 0, nan},
		{"no power, one is bad", []deed{turns(0, 1), stops(0)}, Idle, api.ErrOff, false, first, 0, nan},
		{"no power, two are bad", []deed{turns(0, 1), turns(0, 2), stops(0)}, Idle, api.ErrOff, false, first, 0, nan},
		{"no power behind a scrub", []deed{turns(0, 1), ticks(1), stops(0)}, Idle, api.ErrOff, false, stand{-1, 0, 1}, 1, 1},
		{"the last generation", []deed{lasts}, Idle, api.ErrArg, false, first, 0, nan},
		{"the last generation, one is bad", []deed{lasts, turns(0, 1)}, Idle, api.ErrArg, false, first, 0, nan},
		{"the last generation, two are bad", []deed{lasts, turns(0, 1), turns(0, 2)}, Idle, api.ErrIo, false, first, 0, nan},
	}
}

func fills() []tock {
	nan := math.NaN()
	begun, full := []deed{dies(1), begins}, []deed{dies(1), begins, ticks(3)}
	more := func(ahead []deed, deeds ...deed) []deed { return append(slices.Clip(ahead), deeds...) }
	return []tock{
		{"the first stripe", begun, Filled, api.OK, true, stand{1, 1, 0}, 0, nan},
		{"the second stripe", more(begun, ticks(1)), Filled, api.OK, true, stand{1, 2, 0}, 0, nan},
		{"the last stripe", more(begun, ticks(2)), Filled, api.OK, true, stand{1, 3, 0}, 0, nan},
		{"behind scrubs", append([]deed{turns(0, 1), ticks(2)}, begun...), Filled, api.OK, true, stand{1, 1, 2}, 1, 0.75},
		{"something waits", more(begun, writes(0), writes(4)), Filled, api.OK, true, stand{1, 1, 0}, 0, nan},
		{"the spare's is bad", more(begun, turns(0, 4)), Filled, api.OK, true, stand{1, 1, 0}, 0, nan},
		{"the cursor's is bad", more(begun, ticks(1), turns(0, 0)), Filled, api.OK, true, stand{1, 2, 0}, 0, nan},
		{"for one that lives", []deed{saves(2, 0, 1)}, Filled, api.OK, true, stand{2, 1, 1}, 0, nan},
		{"for one that lives, and is bad", []deed{saves(2, 0, 1), turns(0, 2)}, Filled, api.OK, true, stand{2, 1, 1}, 0, nan},
		{"another one is bad", more(begun, turns(0, 2)), Idle, api.ErrIo, false, stand{1, 0, 0}, 0, nan},
		{"the parity is bad", more(begun, ticks(1), turns(1, 2)), Idle, api.ErrIo, false, stand{1, 1, 0}, 0, nan},
		{"another one is dead", more(begun, ticks(1), dies(3)), Idle, api.ErrIo, false, stand{1, 1, 0}, 0, nan},
		{"two were dead", []deed{dies(3, 2), begins}, Idle, api.ErrIo, false, stand{2, 0, 0}, 0, nan},
		{"the spare died", more(begun, ticks(2), dies(4)), Idle, api.ErrDead, false, stand{1, 2, 0}, 0, nan},
		{"the spare died, another one is bad", more(begun, dies(4), turns(0, 0)), Idle, api.ErrIo, false, stand{1, 0, 0}, 0, nan},
		{"no power", more(begun, ticks(1), stops(0)), Idle, api.ErrOff, false, stand{1, 1, 0}, 0, nan},
		{"the last generation", more(begun, ticks(1), lasts), Idle, api.ErrArg, false, stand{1, 1, 0}, 0, nan},
		{"the last generation, another one is bad", more(begun, lasts, turns(0, 0)), Idle, api.ErrIo, false, stand{1, 0, 0}, 0, nan},
		{"it is filled", full, Scrubbed, api.OK, true, stand{1, 3, 1}, 0, 0},
		{"it is filled, and its is bad", more(full, turns(0, 1)), Scrubbed, api.OK, true, stand{1, 3, 1}, 1, 1},
		{"it is filled, another one is bad", more(full, turns(0, 2)), Scrubbed, api.OK, true, stand{1, 3, 1}, 1, 1},
		{"it is filled, another one is dead", more(full, dies(0)), Scrubbed, api.OK, true, stand{1, 3, 1}, 0, 0},
		{"it is filled, and died", more(full, dies(4)), Scrubbed, api.OK, true, stand{1, 3, 1}, 0, 0},
		{"it is filled, and died, another one is bad", more(full, dies(4), turns(0, 0)), Idle, api.ErrIo, true, stand{1, 3, 1}, 0, nan},
		{"it is filled, no power", more(full, stops(0)), Idle, api.ErrOff, false, stand{1, 3, 0}, 0, nan},
	}
}

func TestTick(t *testing.T) { // P9.3, R2
	for _, c := range append(scrubs(), fills()...) {
		t.Run(c.what, func(t *testing.T) {
			x := shape{4, 3, 1, true}
			s, k := x.behind(t, c.deeds...)
			gen := 0
			for _, said := range sayings(t, s) {
				gen = max(gen, said.Gen)
			}
			if c.saves {
				gen++
			}
			ticked(t, "a tick", k, c.did, c.want)
			stands(t, "behind a tick", k, c.stand)
			saved(t, "behind a tick", s, x, gen, c.stand)
			counted(t, "behind a tick", k, c.mended, c.often)
			if c.want == api.OK && waits(s) != 0 {
				t.Errorf("%d writes wait behind a tick", waits(s))
			}
		})
	}
}

func TestATickWithoutASpare(t *testing.T) { // P9.3
	x := shape{4, 3, 1, false}
	s, k := x.behind(t, turns(0, 1), turns(2, 3))
	for n, mended := range []int{1, 1, 2, 2} {
		ticked(t, "a tick", k, Scrubbed, api.OK)
		stands(t, "behind a tick", k, stand{-1, 0, (n + 1) % 3})
		saved(t, "behind a tick", s, x, n+2, stand{-1, 0, (n + 1) % 3})
		if k.Mended() != mended {
			t.Errorf("Mended = %d, not %d", k.Mended(), mended)
		}
	}
	done(t, s.Kill(1))
	ticked(t, "one is dead", k, Scrubbed, api.OK)
	hasAll(t, "behind all", k, nil)
}

func TestAScrubMendsOneStripe(t *testing.T) { // P9.3
	x := shape{4, 5, 1, true}
	for member := range 4 {
		var deeds []deed
		for stripe := range 5 {
			deeds = append(deeds, turns(stripe, member))
		}
		s, k := x.behind(t, deeds...)
		for n := range 5 {
			for stripe := range 5 {
				if good(t, s, member, x.base()+stripe) != (stripe < n) {
					t.Errorf("behind %d scrubs the stripe %d is otherwise", n, stripe)
				}
			}
			ticked(t, "a tick", k, Scrubbed, api.OK)
			counted(t, "behind a tick", k, n+1, 1)
		}
		s.Crash(nil) // each scrub was sure
		k = again(t, s)
		allWhole(t, "behind all scrubs", k)
		hasAll(t, "behind all scrubs", k, nil)
	}
}

func TestAFillFillsOneStripe(t *testing.T) { // P9.3
	x := shape{4, 5, 1, true}
	for member := range 4 {
		s, k := x.behind(t, dies(member), begins)
		for n := range 5 {
			for stripe := range 5 { // at first the spare has noughts, which go with no other blocks
				w, e := k.Whole(stripe)
				if done(t, e); w != (stripe < n) {
					t.Errorf("behind %d fills Whole(%d) = %v", n, stripe, w)
				}
			}
			ticked(t, "a tick", k, Filled, api.OK)
			f := forkOf(s, nil) // it is sure
			stands(t, "behind a crash", again(t, f), stand{member, n + 1, 0})
			hasAll(t, "behind a crash", again(t, f), nil)
		}
		allWhole(t, "filled", k)
	}
}

func TestTheScrubberGoesRoundAndRound(t *testing.T) { // P9.3
	for _, x := range []shape{{3, 1, 1, false}, {3, 1, 1, true}, {16, 1, 1, true}, {3, 7, 2, true}, {16, 3, 8, false}} {
		s, k := x.full(t)
		for n := range 3 * x.stripes {
			ticked(t, "a tick", k, Scrubbed, api.OK)
			stands(t, "behind a tick", k, stand{-1, 0, (n + 1) % x.stripes})
			if n%2 == 0 {
				s.Crash(nil)
				k = again(t, s)
				stands(t, "opened again", k, stand{-1, 0, (n + 1) % x.stripes})
			}
		}
	}
}

func TestStripesThatCannotBeMendedAreLeftBehind(t *testing.T) { // P9.3
	x := shape{4, 5, 1, true}
	_, k := x.behind(t, turns(0, 0), turns(1, 0), turns(1, 1), turns(2, 3), turns(4, 2), turns(4, 3))
	often, mended := math.NaN(), 0
	for n := range 10 {
		did, want := Scrubbed, api.OK
		switch n % 5 {
		case 1, 4:
			did, want = Idle, api.ErrIo
		default:
			now := 0
			if n == 0 || n == 2 {
				now = 1
			}
			if mended += now; n == 0 {
				often = 1
			} else {
				often = 0.75*often + 0.25*float64(now)
			}
		}
		ticked(t, "a tick", k, did, want)
		stands(t, "behind a tick", k, stand{-1, 0, (n + 1) % 5})
		counted(t, "behind a tick", k, mended, often)
	}
}

func TestAStuckFillGoesOn(t *testing.T) { // P9.3: what is bad is written anew, and the tick is OK then
	x := shape{4, 3, 1, true}
	s, k := x.behind(t, turns(1, 0), dies(1), begins, ticks(1))
	for range 3 {
		ticked(t, "stuck", k, Idle, api.ErrIo)
		stands(t, "stuck", k, stand{1, 1, 0})
	}
	s.Crash(nil)
	k = again(t, s)
	ticked(t, "stuck, behind an Open", k, Idle, api.ErrIo)
	put(t, s, 0, x.base()+1, text(7)) // the stripe 1 has its parity on the member 2: the place 1 is the member 0's
	k = again(t, s)
	for range 2 {
		ticked(t, "it goes on", k, Filled, api.OK)
	}
	allWhole(t, "filled", k)
}

func TestOften(t *testing.T) { // P9.3
	x := shape{3, 6, 1, true}
	s, k := x.full(t)
	often := math.NaN()
	counted(t, "at first", k, 0, often)
	mended := 0
	for n, bad := range []int{0, 1, 1, 0, 0, 1, 1, 1, 0, 1, 0, 0, 1} {
		if bad == 1 {
			turn(t, s, n%3, x.base()+k.Status().Cursor)
		}
		ticked(t, "a tick", k, Scrubbed, api.OK)
		if mended += bad; n == 0 {
			often = float64(bad)
		} else {
			often = often*0.75 + float64(bad)*0.25
		}
		counted(t, "behind a tick", k, mended, often)
	}
	done(t, s.Kill(0))
	done(t, k.Begin())
	for range 6 { // fills are not scrubs
		ticked(t, "a tick", k, Filled, api.OK)
		counted(t, "behind a fill", k, mended, often)
	}
	s.Stop(0)
	ticked(t, "no power", k, Idle, api.ErrOff)
	counted(t, "no power", k, mended, often)
}

func TestTheSaveOfATickIsRefused(t *testing.T) { // P9.3: the power goes behind the Mend, or the Fill
	x := shape{4, 3, 1, true}
	for _, c := range []struct {
		what  string
		deeds []deed
		work  int // writes and flushes ahead of the Save
		want  api.Errno
		stand stand
	}{
		{"a scrub", nil, 0, api.ErrOff, first},
		{"a scrub that mends", []deed{turns(0, 1)}, 4, api.ErrOff, first},
		{"a scrub that mends a parity", []deed{strays(0, 3)}, 4, api.ErrOff, first},
		{"a scrub of what can't be mended", []deed{turns(0, 1), turns(0, 2)}, 0, api.ErrIo, first},
		{"a fill", []deed{dies(1), begins}, 4, api.ErrOff, stand{1, 0, 0}},
	} {
		disks := 5 - len(deadBehind(t, x, c.deeds))
		for n := c.work + 1; n < c.work+4*disks; n++ { // behind the work, and ahead of the Save's last flush
			s, k := x.behind(t, c.deeds...)
			s.Stop(n)
			ticked(t, c.what, k, Idle, c.want)
			stands(t, c.what, k, c.stand)
			counted(t, c.what, k, 0, math.NaN())
			if !s.Off() {
				t.Errorf("%s: behind %d writes and flushes there is power", c.what, n)
			}
		}
		s, k := x.behind(t, c.deeds...)
		s.Stop(c.work + 4*disks)
		if _, e := k.Tick(); e == api.ErrOff || !s.Off() {
			t.Errorf("%s: error %d behind the last flush", c.what, e)
		}
		if standOf(k) == c.stand {
			t.Errorf("%s: nothing was saved", c.what)
		}
	}
}

// deadBehind are the disks that are dead behind some deeds.
func deadBehind(t *testing.T, x shape, deeds []deed) []int {
	t.Helper()
	s, _ := x.behind(t, deeds...)
	var dead []int
	for d := range x.disks() {
		if s.Dead(d) {
			dead = append(dead, d)
		}
	}
	return dead
}

// A pace is what a Run is asked for, and how many ticks it does.
type pace struct {
	x    float64
	most int
	want int
}

func paces() []pace {
	inf := math.Inf(1)
	return []pace{
		{0, 5, 0}, {math.Copysign(0, -1), 5, 0}, {1, 5, 1}, {2, 5, 2}, {5, 5, 5}, {6, 5, 5}, {4.999, 5, 4}, {0.999, 5, 0},
		{1.5, 5, 1}, {math.SmallestNonzeroFloat64, 5, 0}, {-1, 5, 0}, {-0.5, 5, 0}, {-inf, 5, 0}, {inf, 5, 5}, {math.NaN(), 5, 0},
		{math.MaxFloat64, 7, 7}, {-math.MaxFloat64, 7, 0}, {1e300, 3, 3},
		{3, -1, 0}, {3, 0, 0}, {3, 1, 1}, {inf, -1, 0}, {inf, 0, 0}, {inf, 1, 1}, {math.NaN(), -1, 0}, {math.NaN(), 1024, 0},
		{inf, math.MinInt, 0}, {-inf, math.MinInt, 0}, {3, math.MaxInt, 3}, {-3, math.MaxInt, 0},
		{1023, 1024, 1023}, {1023.9, 1024, 1023}, {1024, 1024, 1024}, {inf, 1024, 1024}, {inf, 1023, 1023},
		{1025, 1025, 1024}, {1024.5, 1025, 1024}, {inf, 1025, 1024}, {inf, math.MaxInt, 1024}, {1e18, 1 << 62, 1024}, {2000, 1500, 1024},
	}
}

func TestRun(t *testing.T) { // P9.3
	for _, c := range paces() {
		x := shape{3, 5, 1, false}
		s, k := x.behind(t, turns(0, 1), turns(3, 2))
		count := s.Count()
		n, e := k.Run(c.x, c.most)
		if n != c.want || e != api.OK {
			t.Errorf("Run(%v, %d) = %d, %d, not %d", c.x, c.most, n, e, c.want)
		}
		stands(t, "behind a Run", k, stand{-1, 0, c.want % 5})
		saved(t, "behind a Run", s, x, 1+c.want, stand{-1, 0, c.want % 5})
		mended := min(c.want, 1)
		if c.want > 3 {
			mended = 2
		}
		if k.Mended() != mended {
			t.Errorf("behind Run(%v, %d) Mended = %d, not %d", c.x, c.most, k.Mended(), mended)
		}
		if c.want == 0 && s.Count() != count {
			t.Errorf("Run(%v, %d) does something", c.x, c.most)
		}
	}
}

func TestARunThatIsRefused(t *testing.T) { // P9.3: how many were OK, and that error
	x := shape{4, 5, 1, true}
	for _, c := range []struct {
		what  string
		deeds []deed
		n     int
		want  api.Errno
		stand stand
	}{
		{"at once", []deed{turns(0, 0), turns(0, 1)}, 0, api.ErrIo, stand{-1, 0, 1}},
		{"in the midst", []deed{turns(2, 0), turns(2, 1)}, 2, api.ErrIo, stand{-1, 0, 3}},
		{"at the last one", []deed{turns(4, 0), turns(4, 1)}, 4, api.ErrIo, first},
		{"the fill", []deed{turns(3, 0), dies(1), begins}, 3, api.ErrIo, stand{1, 3, 0}},
		{"the fill at once", []deed{dies(1), begins, dies(2)}, 0, api.ErrIo, stand{1, 0, 0}},
		{"no power", []deed{stops(0)}, 0, api.ErrOff, first},
		{"the power goes", []deed{stops(3*4*5 + 7)}, 3, api.ErrOff, stand{-1, 0, 3}},
		{"the power goes while it fills", []deed{dies(1), begins, stops(2*(4+4*4) + 9)}, 2, api.ErrOff, stand{1, 2, 0}},
		{"the last generation", []deed{lasts}, 0, api.ErrArg, first},
	} {
		_, k := x.behind(t, c.deeds...)
		if n, e := k.Run(5, 100); n != c.n || e != c.want {
			t.Errorf("%s: Run = %d, %d, not %d, %d", c.what, n, e, c.n, c.want)
		}
		stands(t, c.what, k, c.stand)
	}
	s, k := x.behind(t, stops(0)) // what asks for no tick is not refused
	for _, c := range []pace{{0, 5, 0}, {5, 0, 0}, {math.NaN(), 5, 0}, {-1, -1, 0}} {
		if n, e := k.Run(c.x, c.most); n != 0 || e != api.OK {
			t.Errorf("without power Run(%v, %d) = %d, %d", c.x, c.most, n, e)
		}
	}
	s.Crash(nil)
	_, k = x.behind(t, turns(1, 0), turns(1, 1), turns(3, 2)) // behind the one that is refused it goes on
	for i, c := range []struct {
		n    int
		want api.Errno
	}{{1, api.ErrIo}, {4, api.ErrIo}, {4, api.ErrIo}} {
		if n, e := k.Run(math.Inf(1), 9); n != c.n || e != c.want {
			t.Errorf("the Run %d = %d, %d, not %d, %d", i, n, e, c.n, c.want)
		}
	}
	if k.Mended() != 1 {
		t.Errorf("Mended = %d", k.Mended())
	}
}

func TestARunFillsAndScrubs(t *testing.T) { // P9.3
	x := shape{4, 5, 1, true}
	s, k := x.behind(t, ticks(2), dies(0), begins)
	if n, e := k.Run(8, 1000); n != 8 || e != api.OK {
		t.Errorf("Run = %d, %d", n, e)
	}
	stands(t, "behind a Run", k, stand{0, 5, 0})
	saved(t, "behind a Run", s, x, 12, stand{0, 5, 0})
	allWhole(t, "behind a Run", k)
	hasAll(t, "behind a Run", k, nil)
}

func TestTheGreatestArray(t *testing.T) { // P9.3, P9.4, the document's limits
	x := shape{api.MaxMembers, api.MaxStripes, api.MaxLogs, true}
	s, k := x.empty(t)
	r := map[int][]byte{}
	for n := 0; n < x.blocks(); n += 97 {
		r[n] = text(n)
		done(t, k.Write(n, r[n]))
	}
	done(t, s.Kill(15))
	done(t, k.Begin())
	for _, want := range []int{1000, 24} {
		if n, e := k.Run(math.Inf(1), want); n != want || e != api.OK {
			t.Errorf("Run = %d, %d", n, e)
		}
	}
	stands(t, "filled", k, stand{15, 1024, 0})
	allWhole(t, "filled", k)
	turn(t, s, 16, x.base()+1023)
	turn(t, s, 3, x.base())
	if n, e := k.Run(2000, 2000); n != 1024 || e != api.OK {
		t.Errorf("Run = %d, %d", n, e)
	}
	if k.Mended() != 2 {
		t.Errorf("Mended = %d", k.Mended())
	}
	stands(t, "scrubbed", k, stand{15, 1024, 0})
	done(t, s.Kill(7))
	for n, want := range r {
		if b, e := k.Read(n); e != api.OK || string(b) != string(want) {
			t.Fatalf("Read(%d): %d", n, e)
		}
	}
}

func TestWritesBetweenTicks(t *testing.T) { // P9.4, P9.5
	for _, x := range []shape{{3, 4, 1, true}, {4, 5, 2, true}, {16, 3, 1, true}} {
		for member := range x.members {
			s, k := x.behind(t, dies(member), begins)
			want := map[int][]byte{}
			for n := range x.stripes {
				for _, stripe := range []int{n, max(n-1, 0), x.stripes - 1} { // at the mark, below and above it
					block := stripe*(x.members-1) + (n+member)%(x.members-1)
					want[block] = text(7*block + n)
					done(t, k.Write(block, want[block]))
				}
				ticked(t, "a tick", k, Filled, api.OK)
				hasAll(t, "behind a tick", k, want)
			}
			allWhole(t, "filled", k)
			anyOneMayDie(t, s, want)
		}
	}
}

// anyOneMayDie fails if not each block of a full array is read when any one disk dies, now and behind a crash.
func anyOneMayDie(t *testing.T, s *shelf.Shelf, want map[int][]byte) {
	t.Helper()
	disks, _ := s.Size()
	for disk := range disks {
		f := forkOf(s, nil)
		k := again(t, f)
		done(t, f.Kill(disk))
		hasAll(t, "one more died", k, want)
		hasAll(t, "one more died, behind an Open", again(t, f), want)
	}
}

func TestAMemberDiesWhileTheSpareIsFilled(t *testing.T) { // P9.3, P9.4: what is filled outlives it
	x := shape{4, 6, 1, true}
	for dead := range 4 {
		for next := range 5 {
			for ahead := range 7 {
				if next == dead {
					continue
				}
				s, k := x.behind(t, dies(dead), begins, ticks(ahead), dies(next))
				did, want := Idle, api.ErrIo
				switch {
				case ahead == 6:
					did, want = Scrubbed, api.OK
				case next == 4:
					want = api.ErrDead
				}
				ticked(t, "one more died", k, did, want)
				if ahead == 6 {
					is(t, "Begin", k.Begin(), api.ErrFull)
				} else {
					is(t, "Begin", k.Begin(), api.OK)
				}
				for range 2 { // as it is, and behind a crash
					for n := range x.blocks() {
						if b, e := k.Read(n); n/3 < ahead && (e != api.OK || string(b) != string(text(1000+n))) {
							t.Errorf("%d, then %d died, behind %d ticks: Read(%d): %d", dead, next, ahead, n, e)
						}
					}
					s.Crash(nil)
					k = again(t, s)
				}
			}
		}
	}
}
