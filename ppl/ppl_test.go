package ppl

import (
	"bytes"
	"encoding/binary"
	"hash/crc32"
	"math"
	"math/rand"
	"slices"
	"testing"

	"ashlar/api"
	"ashlar/shelf"
	"ashlar/sums"
)

// edges are whole numbers at which a call may go wrong.
func edges() []int {
	return []int{
		math.MinInt, math.MinInt + 1, -1 << 62, -1 << 32, -1025, -1024, -256, -16, -9, -8, -2, -1,
		0, 1, 2, 3, 7, 8, 9, 13, 14, 15, 16, 17, 127, 128, 255, 256, 257, 1022, 1023, 1024, 1025,
		1<<16 - 1, 1 << 16, 1<<16 + 5, 1<<31 - 1, 1 << 31, 1<<32 - 1, 1 << 32, 1<<32 + 1, 1<<62 - 1, 1 << 62,
		math.MaxInt - 1, math.MaxInt,
	}
}

// text is a block of which each byte is another one.
func text(x byte) []byte {
	b := make([]byte, api.Sector)
	for i := range b {
		b[i] = x + byte(i)
	}
	return b
}

func noughts() []byte { return make([]byte, api.Sector) }

// record is one of which all hangs on a number.
func record(x int) api.Record {
	return api.Record{Stripe: 37 * x % 1024, Place: x % 15, Part: text(byte(x))}
}

func crc(b []byte) uint32 { return crc32.Checksum(b, crc32.MakeTable(crc32.Castagnoli)) }

// cut keeps of a record the bytes that a head has for it, be it one that may be or not.
func cut(r api.Record) []byte {
	b := make([]byte, 128)
	copy(b, "PART")
	binary.LittleEndian.PutUint32(b[4:], uint32(r.Stripe))
	binary.LittleEndian.PutUint32(b[8:], uint32(r.Place))
	binary.LittleEndian.PutUint32(b[12:], crc(r.Part))
	return sealed(b)
}

// sealed gives a head the sum that its bytes have.
func sealed(b []byte) []byte {
	b = bytes.Clone(b)
	binary.LittleEndian.PutUint32(b[124:], crc(b[:124]))
	return b
}

// mayBeToo is mayBe, told once more.
func mayBeToo(r api.Record) bool {
	return r.Stripe >= 0 && r.Stripe <= 1023 && r.Place >= 0 && r.Place <= 14 && len(r.Part) == 128
}

// wholes are records at the edges of what they may be.
func wholes() []api.Record {
	return []api.Record{
		{Stripe: 0, Place: 0, Part: noughts()},
		{Stripe: 5, Place: 2, Part: text(9)},
		{Stripe: 1023, Place: 14, Part: bytes.Repeat([]byte{0xff}, 128)},
		{Stripe: 0x0102, Place: 3, Part: text(200)},
		{Stripe: 1023, Place: 0, Part: text(0)},
		{Stripe: 0, Place: 14, Part: noughts()},
	}
}

func same(a, b api.Record) bool {
	return a.Stripe == b.Stripe && a.Place == b.Place && bytes.Equal(a.Part, b.Part)
}

func nothing(r api.Record) bool {
	return r.Stripe == 0 && r.Place == 0 && r.Part == nil
}

// twin has other bytes from one on, of the same sum: put together, the two are the sums' polynomial.
func twin(b []byte, from int) []byte {
	b = bytes.Clone(b)
	polynomial := uint64(0x11EDC6F41)
	for i := range 33 {
		b[from+i/8] ^= byte(polynomial>>(32-i)&1) << (i % 8)
	}
	return b
}

// done fails if a call was refused.
func done(t *testing.T, e api.Errno) {
	t.Helper()
	if e != api.OK {
		t.Fatalf("error %d", e)
	}
}

// is fails if a call answers another error than the one that is asked for.
func is(t *testing.T, what string, got, want api.Errno) {
	t.Helper()
	if got != want {
		t.Errorf("%s: %d, not %d", what, got, want)
	}
}

func shelfOf(t *testing.T, disks, sectors int) *shelf.Shelf {
	t.Helper()
	s, e := shelf.New(disks, sectors)
	done(t, e)
	return s
}

func devOf(t *testing.T, s *shelf.Shelf, disk int) *sums.Dev {
	t.Helper()
	d, e := sums.Open(s, disk)
	done(t, e)
	return d
}

func logOf(t *testing.T, d *sums.Dev, slots int) *Log {
	t.Helper()
	l, e := Open(d, slots)
	if e != api.OK || l == nil {
		t.Fatalf("Open(%d) = %v, %d", slots, l, e)
	}
	return l
}

// fresh is a log of so many slots on a disk of its own, on which there is just room for it.
func fresh(t *testing.T, slots int) (*shelf.Shelf, *sums.Dev, *Log) {
	t.Helper()
	s := shelfOf(t, 1, sectorsFor(2+2*slots))
	d := devOf(t, s, 0)
	return s, d, logOf(t, d, slots)
}

// sectorsFor is how many sectors just have so many blocks.
func sectorsFor(blocks int) int {
	return blocks + (blocks+15)/16
}

// again opens a disk's log behind a crash.
func again(t *testing.T, s *shelf.Shelf, slots int) *Log {
	t.Helper()
	return logOf(t, devOf(t, s, 0), slots)
}

// has fails if a slot has another record, or none.
func has(t *testing.T, l *Log, slot int, want api.Record) {
	t.Helper()
	if r, e := l.Get(slot); e != api.OK || !same(r, want) {
		t.Errorf("Get(%d) = %+v, %d, not %+v", slot, r, e, want)
	}
}

// refuses fails if a slot has a record, or none for another cause.
func refuses(t *testing.T, l *Log, slot int, want api.Errno) {
	t.Helper()
	if r, e := l.Get(slot); e != want || !nothing(r) {
		t.Errorf("Get(%d) = %+v, %d, not %d", slot, r, e, want)
	}
}

// holds fails if All tells other records.
func holds(t *testing.T, l *Log, want ...api.Record) {
	t.Helper()
	if all := l.All(); !slices.EqualFunc(all, want, same) {
		t.Errorf("All = %+v, not %+v", all, want)
	}
}

// block is what a disk's block has.
func block(t *testing.T, d *sums.Dev, n int) []byte {
	t.Helper()
	b, e := d.Read(n)
	done(t, e)
	return b
}

// spends fails if a call takes another number of the shelf's.
func spends(t *testing.T, s *shelf.Shelf, what string, want int, call func() api.Errno) {
	t.Helper()
	before := s.Count()
	is(t, what, call(), api.OK)
	if n := s.Count() - before; n != want {
		t.Errorf("%s took %d reads, writes and flushes, not %d", what, n, want)
	}
}

func TestExample(t *testing.T) { // the chapter's example
	_, _, l := fresh(t, 1)
	r := record(1)
	done(t, l.Put(0, r))
	has(t, l, 0, r)
	done(t, l.Clear(0))
	refuses(t, l, 0, api.ErrNone)
}

func TestEncodeTellsTheHead(t *testing.T) { // P7.1
	for _, r := range wholes() {
		if b, e := Encode(r); e != api.OK || !bytes.Equal(b, cut(r)) {
			t.Errorf("Encode(%+v) = %x, %d, not %x", r, b, e, cut(r))
		}
	}
	b, e := Encode(api.Record{Stripe: 0x0304, Place: 11, Part: text(7)})
	sum := crc(text(7))
	want := []byte{
		'P', 'A', 'R', 'T', 4, 3, 0, 0, 11, 0, 0, 0,
		byte(sum), byte(sum >> 8), byte(sum >> 16), byte(sum >> 24),
	}
	if e != api.OK || len(b) != 128 || !bytes.HasPrefix(b, want) || !bytes.Equal(b[16:124], make([]byte, 108)) {
		t.Errorf("%x, %d", b, e)
	}
}

// parts are of lengths that may be and may not be, some with more behind them.
func parts() [][]byte {
	long := bytes.Repeat(text(3), 3)
	return [][]byte{
		nil, {}, long[:0], long[:1], long[:127], long[:127:127], long[:128], long[:128:128], long[:129], long[:256], long,
	}
}

func TestEncodeTakesAndRefusesAtEachEdge(t *testing.T) { // P7.1, R4
	for _, stripe := range edges() {
		for _, place := range edges() {
			for _, part := range parts() {
				r := api.Record{Stripe: stripe, Place: place, Part: part}
				b, e := Encode(r)
				switch {
				case mayBeToo(r) && (e != api.OK || !bytes.Equal(b, cut(r))):
					t.Errorf("Encode(%+v) = %x, %d", r, b, e)
				case !mayBeToo(r) && (e != api.ErrArg || b != nil):
					t.Errorf("Encode(%+v) = %x, %d", r, b, e)
				}
			}
		}
	}
}

func TestEncodeTakesEachStripeAndPlace(t *testing.T) { // P7.1
	for stripe := -1; stripe <= 1024; stripe++ {
		for place := -1; place <= 15; place++ {
			r := api.Record{Stripe: stripe, Place: place, Part: text(1)}
			b, e := Encode(r)
			if mayBeToo(r) != (e == api.OK) || (e == api.OK && !bytes.Equal(b, cut(r))) {
				t.Errorf("Encode(%d, %d) = %x, %d", stripe, place, b, e)
			}
		}
	}
}

// isNone fails if there is a record of a head and a part.
func isNone(t *testing.T, what string, head, part []byte) {
	t.Helper()
	if r, e := Decode(head, part); e != api.ErrCode || !nothing(r) {
		t.Errorf("%s: Decode = %+v, %d", what, r, e)
	}
}

func TestDecodeRefusesNumbersThatMayNotBe(t *testing.T) { // P7.1
	for _, stripe := range edges() {
		for _, place := range edges() {
			r := api.Record{Stripe: stripe, Place: place, Part: text(4)}
			// A head has the lowest 4 bytes of each number alone: what these are may be.
			told := api.Record{Stripe: int(uint32(stripe)), Place: int(uint32(place)), Part: r.Part}
			if !mayBeToo(told) {
				isNone(t, "a number that may not be", cut(r), r.Part)
			} else if x, e := Decode(cut(r), r.Part); e != api.OK || !same(x, told) {
				t.Errorf("Decode = %+v, %d, not %+v", x, e, told)
			}
		}
	}
}

func TestDecodeRefusesPartsOfOtherLengths(t *testing.T) { // P7.1, R4
	for _, part := range parts() {
		r := api.Record{Stripe: 9, Place: 1, Part: part}
		if !mayBeToo(r) {
			isNone(t, "a part of another length, with its sum", cut(r), part)
		} else if x, e := Decode(cut(r), part); e != api.OK || !same(x, r) {
			t.Errorf("Decode = %+v, %d", x, e)
		}
	}
	isNone(t, "no part", cut(record(1)), nil)
	isNone(t, "neither", nil, nil)
}

func TestDecodeRefusesHeadsOfOtherLengths(t *testing.T) { // P7.1, R4
	r := record(3)
	long := append(cut(r), make([]byte, 128)...)
	isNone(t, "no head", nil, r.Part)
	isNone(t, "an empty head", []byte{}, r.Part)
	for n := range len(long) {
		if n != 128 {
			isNone(t, "a head of another length", long[:n], r.Part)
			isNone(t, "one without more behind it", long[:n:n], r.Part)
		}
	}
	if x, e := Decode(long[:128], r.Part); e != api.OK || !same(x, r) {
		t.Errorf("%+v, %d", x, e)
	}
}

func TestDecodeRefusesOtherBytesThatAreSealed(t *testing.T) { // P7.1
	r := record(3)
	head := cut(r)
	for at := range 124 {
		if at >= 4 && at < 12 {
			continue
		}
		b := bytes.Clone(head)
		b[at]++
		isNone(t, "another sign, another part's sum, or no noughts", sealed(b), r.Part)
	}
	isNone(t, "noughts with their sum", sealed(noughts()), noughts())
	isNone(t, "noughts", noughts(), noughts())
	isNone(t, "ones", bytes.Repeat([]byte{0xff}, 128), bytes.Repeat([]byte{0xff}, 128))
	isNone(t, "the part as a head", r.Part, r.Part)
	isNone(t, "the other way round", r.Part, head)
	isNone(t, "the head twice", head, head)
}

func TestTheHeadsNumbersAreTheRecords(t *testing.T) { // P7.1: heads that are sealed anew are another record's
	r := record(3)
	for _, c := range []struct{ at, to int }{{4, 8}, {5, 1}, {8, 14}} {
		b := cut(r)
		b[c.at] = byte(c.to)
		want := api.Record{Stripe: int(binary.LittleEndian.Uint32(b[4:])), Place: int(b[8]), Part: r.Part}
		if x, e := Decode(sealed(b), r.Part); e != api.OK || !same(x, want) {
			t.Errorf("%+v, %d, not %+v", x, e, want)
		}
	}
}

func TestWhatWasEncodedIsDecoded(t *testing.T) { // P7.3
	r := rand.New(rand.NewSource(7))
	seen := map[string]api.Record{}
	for range 5000 {
		x := api.Record{Stripe: r.Intn(1024), Place: r.Intn(15), Part: text(byte(r.Intn(3)))}
		head, e := Encode(x)
		done(t, e)
		if y, e := Decode(head, x.Part); e != api.OK || !same(x, y) {
			t.Fatalf("%+v became %+v, %d", x, y, e)
		}
		both := string(head) + string(x.Part)
		if y, is := seen[both]; is && !same(x, y) {
			t.Errorf("%+v and %+v have the same head and part", x, y)
		}
		seen[both] = x
	}
}

func TestNoTwoRecordsAreTheSame(t *testing.T) { // P7.3
	seen := map[string]bool{}
	for stripe := range 1024 {
		for place := range 15 {
			head, e := Encode(api.Record{Stripe: stripe, Place: place, Part: text(1)})
			done(t, e)
			if seen[string(head)] {
				t.Errorf("another record has the head of %d, %d", stripe, place)
			}
			seen[string(head)] = true
		}
	}
}

func TestOneOtherByteIsNoRecord(t *testing.T) { // P7.4
	for _, r := range wholes() {
		head, _ := Encode(r)
		for at := range 128 {
			for x := 1; x < 256; x++ {
				other := bytes.Clone(head)
				other[at] ^= byte(x)
				isNone(t, "another byte of the head", other, r.Part)
				other = bytes.Clone(r.Part)
				other[at] ^= byte(x)
				isNone(t, "another byte of the part", head, other)
			}
		}
	}
}

func TestAPartOfTheSameSumIsARecords(t *testing.T) { // P7.5: the remark in it
	r := record(5)
	other := twin(r.Part, 60)
	if bytes.Equal(r.Part, other) || crc(r.Part) != crc(other) {
		t.Fatal("a twin has other bytes of the same sum")
	}
	if x, e := Decode(cut(r), other); e != api.OK || !bytes.Equal(x.Part, other) || x.Stripe != r.Stripe {
		t.Errorf("%+v, %d", x, e)
	}
}

func TestArgumentsStayAndAnswersAreNew(t *testing.T) { // R3
	room := append(text(3), text(99)...)
	r := api.Record{Stripe: 8, Place: 3, Part: room[:128]}
	head, e := Encode(r)
	done(t, e)
	was := bytes.Clone(head)
	x, e := Decode(head, r.Part)
	done(t, e)
	for i := range 128 {
		x.Part[i]++
	}
	_ = append(x.Part, 1, 2, 3)
	_ = append(head, 1, 2, 3)
	if !bytes.Equal(head, was) || !bytes.Equal(room, append(text(3), text(99)...)) {
		t.Error("what was handed in changed")
	}
	for i := range head {
		head[i]++
	}
	if again, e := Encode(r); e != api.OK || !bytes.Equal(again, was) {
		t.Errorf("%x, then %x, %d", was, again, e)
	}

	_, _, l := fresh(t, 2)
	done(t, l.Put(1, r))
	for i := range room {
		room[i] = 0 // nor is it kept
	}
	want := api.Record{Stripe: 8, Place: 3, Part: text(3)}
	has(t, l, 1, want)
	got, _ := l.Get(1)
	clear(got.Part)
	all := l.All()
	clear(all[0].Part)
	all[0].Stripe = 1
	has(t, l, 1, want)
	holds(t, l, want)
}

func TestOpenTakesAndRefuses(t *testing.T) { // P7.2
	for _, disks := range []int{1, 3} {
		s := shelfOf(t, disks, 40)
		d := devOf(t, s, disks-1)
		for _, slots := range edges() {
			l, e := Open(d, slots)
			may := slots >= 1 && slots <= 8
			if may != (e == api.OK) || may != (l != nil) || (!may && e != api.ErrArg) {
				t.Errorf("Open(%d) = %v, %d", slots, l, e)
			}
		}
		if s.Count() != 0 {
			t.Error("Open reads, or writes")
		}
	}
	for _, slots := range edges() {
		for _, d := range []*sums.Dev{nil, {}} {
			if l, e := Open(d, slots); l != nil || e != api.ErrArg {
				t.Errorf("Open of no disk, %d slots = %v, %d", slots, l, e)
			}
		}
	}
}

func TestOpenAsksForEnoughBlocks(t *testing.T) { // P7.2
	for sectors := 1; sectors <= 40; sectors++ {
		d := devOf(t, shelfOf(t, 1, sectors), 0)
		for slots := 1; slots <= 8; slots++ {
			l, e := Open(d, slots)
			enough := d.Blocks() >= 2+2*slots
			if enough != (e == api.OK) || enough != (l != nil) || (!enough && e != api.ErrArg) {
				t.Errorf("of %d blocks Open(%d) = %v, %d", d.Blocks(), slots, l, e)
			}
		}
	}
	for slots := 1; slots <= 8; slots++ { // the last slot's part is the last block
		_, d, l := fresh(t, slots)
		if d.Blocks() != 2+2*slots {
			t.Fatalf("%d blocks for %d slots", d.Blocks(), slots)
		}
		done(t, l.Put(slots-1, record(slots)))
		has(t, l, slots-1, record(slots))
	}
}

func TestOpenWithoutPowerAndOfTheDead(t *testing.T) { // P7.2: only what is asked of the disk is refused
	s := shelfOf(t, 1, 9)
	done(t, s.Kill(0))
	s.Stop(0)
	l := again(t, s, 2)
	refuses(t, l, 0, api.ErrOff)
	holds(t, l)
}

func TestWhereSlotsLie(t *testing.T) { // P7.2
	for slots := 1; slots <= 8; slots++ {
		_, d, l := fresh(t, slots)
		done(t, d.Write(0, text(100)))
		done(t, d.Write(1, text(101)))
		for slot := range slots {
			done(t, l.Put(slot, record(40+slot)))
			for k := range slots {
				head, part := noughts(), noughts()
				if k <= slot {
					head, part = cut(record(40+k)), record(40+k).Part
				}
				if !bytes.Equal(block(t, d, 2+2*k), head) || !bytes.Equal(block(t, d, 3+2*k), part) {
					t.Errorf("of %d slots, %d put: the slot %d has %x, %x", slots, slot, k, block(t, d, 2+2*k), block(t, d, 3+2*k))
				}
			}
		}
		for slot := range slots {
			done(t, l.Clear(slot))
			if !bytes.Equal(block(t, d, 2+2*slot), noughts()) || !bytes.Equal(block(t, d, 3+2*slot), record(40+slot).Part) {
				t.Errorf("of %d slots: the slot %d is not cleared by its head alone", slots, slot)
			}
		}
		if !bytes.Equal(block(t, d, 0), text(100)) || !bytes.Equal(block(t, d, 1), text(101)) {
			t.Error("what stands ahead of the slots was written")
		}
	}
}

func TestPutPutAgainAndCleared(t *testing.T) { // P7.2, P7.3
	_, _, l := fresh(t, 8)
	for slot := range 8 {
		refuses(t, l, slot, api.ErrNone)
		holds(t, l)
		done(t, l.Put(slot, record(slot)))
		has(t, l, slot, record(slot))
		done(t, l.Put(slot, record(slot+50)))
		has(t, l, slot, record(slot+50))
		done(t, l.Put(slot, record(slot+50)))
		has(t, l, slot, record(slot+50))
		done(t, l.Clear(slot))
		refuses(t, l, slot, api.ErrNone)
		done(t, l.Clear(slot))
		refuses(t, l, slot, api.ErrNone)
	}
}

func TestAllWholesArePutAndGot(t *testing.T) { // P7.3
	_, _, l := fresh(t, 2)
	for _, r := range wholes() {
		done(t, l.Put(1, r))
		has(t, l, 1, r)
		refuses(t, l, 0, api.ErrNone)
		holds(t, l, r)
	}
}

func TestAllTellsTheRecordsInOrder(t *testing.T) { // P7.2
	for which := range 1 << 8 {
		_, _, l := fresh(t, 8)
		var want []api.Record
		for k := range 8 {
			slot := 7 - k // put from the last one on
			if which>>slot&1 == 1 {
				done(t, l.Put(slot, record(9-slot)))
				want = append([]api.Record{record(9 - slot)}, want...)
			}
		}
		holds(t, l, want...)
	}
}

func TestAllLeavesOutWhatIsNoRecord(t *testing.T) { // P7.2
	s, d, l := fresh(t, 6)
	for slot := range 6 {
		done(t, l.Put(slot, record(slot)))
	}
	done(t, l.Clear(1))
	done(t, d.Flush())
	done(t, d.Write(6, text(7))) // the slot 2 has another head
	done(t, d.Flush())
	turn(t, s, 8, 5, 1)  // the slot 3 has a bad head
	turn(t, s, 11, 5, 1) // the slot 4 has a bad part
	holds(t, l, record(0), record(5))
	done(t, s.Kill(0))
	holds(t, l)
}

// turn turns a byte of a block.
func turn(t *testing.T, s *shelf.Shelf, block, at int, with byte) {
	t.Helper()
	_, data, e := sums.Place(block)
	done(t, e)
	done(t, s.Corrupt(0, data, at, with))
}

// turnSum turns a byte of one of a block's two sums.
func turnSum(t *testing.T, s *shelf.Shelf, block, which, at int, with byte) {
	t.Helper()
	sector, _, e := sums.Place(block)
	done(t, e)
	done(t, s.Corrupt(0, sector, 8*(block%16)+4*which+at, with))
}

func TestSlotsThatThereAreNot(t *testing.T) { // P7.2
	for slots := 1; slots <= 8; slots++ {
		s, _, l := fresh(t, slots)
		count := s.Count()
		for _, slot := range append(edges(), slots, slots+1) {
			if slot >= 0 && slot < slots {
				continue
			}
			refuses(t, l, slot, api.ErrArg)
			is(t, "Put", l.Put(slot, record(1)), api.ErrArg)
			is(t, "Put of what may not be", l.Put(slot, api.Record{}), api.ErrArg)
			is(t, "Clear", l.Clear(slot), api.ErrArg)
		}
		if s.Count() != count {
			t.Error("what is refused reads, or writes")
		}
	}
}

func TestPutRefusesWhatMayNotBe(t *testing.T) { // P7.2, R2
	s, _, l := fresh(t, 2)
	done(t, l.Put(0, record(1)))
	count := s.Count()
	for _, x := range edges() {
		for _, part := range parts() {
			for _, r := range []api.Record{{Stripe: x, Part: part}, {Place: x, Part: part}, {Stripe: x, Place: x, Part: part}} {
				if !mayBeToo(r) {
					is(t, "Put", l.Put(0, r), api.ErrArg)
				}
			}
		}
	}
	if s.Count() != count {
		t.Error("what is refused reads, or writes")
	}
	has(t, l, 0, record(1))
}

func TestErrorsInTheirOrder(t *testing.T) { // P7.2, R2
	s, _, l := fresh(t, 2)
	done(t, l.Put(0, record(1)))
	done(t, s.Kill(0))
	for _, want := range []api.Errno{api.ErrDead, api.ErrOff} {
		for slot := range 2 {
			refuses(t, l, slot, want)
			is(t, "Put", l.Put(slot, record(2)), want)
			is(t, "Put of what may not be", l.Put(slot, api.Record{Stripe: 1024, Part: text(1)}), api.ErrArg)
			is(t, "Clear", l.Clear(slot), want)
		}
		refuses(t, l, 2, api.ErrArg)
		is(t, "Put into no slot", l.Put(-1, record(2)), api.ErrArg)
		is(t, "Clear of no slot", l.Clear(2), api.ErrArg)
		holds(t, l)
		s.Stop(0)
	}
}

func TestWhatGetRefusesInItsOrder(t *testing.T) { // P7.2, R2
	r := record(6)
	for _, c := range []struct {
		head             []byte
		badHead, badPart bool
		want             api.Errno
	}{
		{cut(r), false, false, api.OK},
		{cut(r), true, false, api.ErrBad},
		{cut(r), false, true, api.ErrBad},
		{cut(r), true, true, api.ErrBad},
		{noughts(), false, false, api.ErrNone},
		{noughts(), false, true, api.ErrNone},
		{noughts(), true, false, api.ErrBad},
		{text(1), false, false, api.ErrCode},
		{text(1), false, true, api.ErrBad},
		{cut(record(7)), false, false, api.ErrCode},
		{sealed(noughts()), false, false, api.ErrCode},
		{append(make([]byte, 127), 1), false, false, api.ErrCode},
		{append([]byte{1}, make([]byte, 127)...), false, false, api.ErrCode},
	} {
		s, d, l := fresh(t, 1)
		done(t, d.Write(3, r.Part))
		done(t, d.Write(2, c.head))
		done(t, d.Flush())
		if c.badHead {
			turn(t, s, 2, 50, 3)
		}
		if c.badPart {
			turn(t, s, 3, 50, 3)
		}
		if c.want == api.OK {
			has(t, l, 0, r)
		} else {
			refuses(t, l, 0, c.want)
		}
	}
}

func TestHowManySectorsACallTakes(t *testing.T) { // P7.2: the head is asked first, the part only if need be
	s, d, l := fresh(t, 4)
	none := func() api.Errno { refuses(t, l, 1, api.ErrNone); return api.OK }
	get := func() api.Errno { _, e := l.Get(1); return e }
	all := func() api.Errno { l.All(); return api.OK }
	put := func() api.Errno { return l.Put(1, record(s.Count())) }
	wipe := func() api.Errno { return l.Clear(1) }
	spends(t, s, "Get of none", 2, none)
	spends(t, s, "Put", 10, put)
	spends(t, s, "Put again", 10, put)
	spends(t, s, "Get", 4, get)
	spends(t, s, "All", 10, all)
	spends(t, s, "Clear", 6, wipe) // the head is the open block
	spends(t, s, "Clear again", 6, wipe)
	spends(t, s, "All of none", 8, all)
	done(t, d.Flush())
	spends(t, s, "Clear behind a flush", 5, wipe)
	spends(t, s, "Put behind it", 10, put)
	turn(t, s, 5, 1, 1)
	before := s.Count()
	refuses(t, l, 1, api.ErrBad)
	if n := s.Count() - before; n != 4 {
		t.Errorf("Get of a bad part took %d", n)
	}
	done(t, d.Flush())
	turn(t, s, 4, 1, 1)
	before = s.Count()
	refuses(t, l, 1, api.ErrBad)
	if n := s.Count() - before; n != 2 {
		t.Errorf("Get of a bad head took %d", n)
	}
}

func TestNothingIsFlushedButByWrites(t *testing.T) { // P7.2
	s, d, l := fresh(t, 2)
	done(t, l.Put(0, record(1)))
	if s.Waits(0) != 1 {
		t.Errorf("behind a Put %d wait: the head alone does", s.Waits(0))
	}
	l.Get(0)
	l.All()
	if s.Waits(0) != 1 {
		t.Errorf("behind a Get %d wait", s.Waits(0))
	}
	f := s.Fork()
	f.Crash(nil)
	refuses(t, again(t, f, 2), 0, api.ErrNone)
	done(t, d.Flush())
	done(t, l.Clear(0))
	if s.Waits(0) != 1 {
		t.Errorf("behind a Clear %d wait", s.Waits(0))
	}
	s.Crash(nil)
	has(t, again(t, s, 2), 0, record(1))
}

func TestThePartIsWrittenAheadOfTheHead(t *testing.T) { // P7.2
	none := noughts()
	r := record(8)
	for n, want := range [][2][]byte{
		{none, none}, {none, none}, {none, none}, // the part's sums are written, and flushed
		{none, r.Part}, {none, r.Part}, {none, r.Part}, // the part; the head's sums, with which it is flushed
		{cut(r), r.Part}, {cut(r), r.Part},
	} {
		s, _, l := fresh(t, 1)
		s.Stop(n)
		want1 := api.ErrOff
		if n >= 6 {
			want1 = api.OK
		}
		is(t, "Put", l.Put(0, r), want1)
		s.Crash([][]int{{0, 1, 2, 3}})
		d := devOf(t, s, 0)
		if head, part := block(t, d, 2), block(t, d, 3); !bytes.Equal(head, want[0]) || !bytes.Equal(part, want[1]) {
			t.Errorf("behind %d writes and flushes: %x, %x", n, head, part)
		}
	}
}

func TestWhatTheDiskRefusesIsToldAtOnce(t *testing.T) { // P7.2
	for n := range 7 {
		s, _, l := fresh(t, 2)
		s.Stop(n)
		want, reads := api.ErrOff, 4
		switch {
		case n == 0:
			reads = 0
		case n <= 3: // the part is written last: nothing is read of the head then
			reads = 2
		case n == 6:
			want = api.OK
		}
		is(t, "Put", l.Put(1, record(1)), want)
		if s.Count() != n+reads {
			t.Errorf("the power off behind %d: %d were done, not %d", n, s.Count(), n+reads)
		}
	}
}

// crashes calls a function with each state that a crash may leave: whichever of what waits is kept.
func crashes(s *shelf.Shelf, then func(*shelf.Shelf)) {
	for kept := range 1 << s.Waits(0) {
		keep := make([][]int, 1)
		for number := range s.Waits(0) {
			if kept>>number&1 == 1 {
				keep[0] = append(keep[0], number)
			}
		}
		f := s.Fork()
		f.Crash(keep)
		then(f)
	}
}

// hasOneOf fails if a slot has none of what it may have; it may have none if anything was done since it was flushed.
func hasOneOf(t *testing.T, l *Log, slot int, may []api.Record) {
	t.Helper()
	r, e := l.Get(slot)
	switch e {
	case api.OK:
		if !slices.ContainsFunc(may, func(x api.Record) bool { return same(x, r) }) {
			t.Errorf("the slot %d has the record of %d, %d, which is none of %d", slot, r.Stripe, r.Place, len(may))
		}
	case api.ErrNone, api.ErrCode:
		if len(may) == 1 && !nothing(may[0]) {
			t.Errorf("the slot %d has lost its record: error %d", slot, e)
		}
	default:
		t.Errorf("the slot %d: error %d", slot, e)
	}
}

// A job is a slot that is put, or cleared, or a flush.
type job struct {
	slot int // -1: a flush
	put  int // the record's number; -1: it is cleared
}

// run does jobs till one is refused; may gathers what each slot may have behind a crash: at its last flush, or since.
func run(d *sums.Dev, l *Log, jobs []job, may map[int][]api.Record) {
	for _, j := range jobs {
		switch {
		case j.slot < 0:
			if d.Flush() != api.OK {
				return
			}
			for slot, all := range may {
				may[slot] = all[len(all)-1:]
			}
		case j.put < 0:
			may[j.slot] = append(may[j.slot], api.Record{})
			if l.Clear(j.slot) != api.OK {
				return
			}
		default:
			may[j.slot] = append(may[j.slot], record(j.put))
			if l.Put(j.slot, record(j.put)) != api.OK {
				return
			}
		}
	}
}

// noneYet is what slots may have at first.
func noneYet(slots int) map[int][]api.Record {
	may := map[int][]api.Record{}
	for slot := range slots {
		may[slot] = []api.Record{{}}
	}
	return may
}

func TestThePowerGoesAnywhere(t *testing.T) { // P7.5
	for _, jobs := range [][]job{
		{{0, 1}},
		{{0, 1}, {0, 2}},
		{{0, 1}, {-1, 0}, {0, 2}},
		{{0, 1}, {0, -1}},
		{{0, 1}, {-1, 0}, {0, -1}},
		{{0, 1}, {-1, 0}, {0, -1}, {0, 2}},
		{{0, 1}, {-1, 0}, {0, -1}, {-1, 0}, {0, 2}, {0, 3}},
		{{0, 1}, {1, 2}, {2, 3}, {-1, 0}, {1, -1}, {0, 4}, {2, -1}, {1, 5}},
		{{2, 1}, {-1, 0}, {2, 1}, {1, 1}, {2, -1}},
	} {
		for n, over := 0, false; !over; n++ {
			s, d, l := fresh(t, 3)
			s.Stop(n)
			may := noneYet(3)
			run(d, l, jobs, may)
			over = !s.Off()
			crashes(s, func(f *shelf.Shelf) {
				l := again(t, f, 3)
				for slot := range 3 {
					hasOneOf(t, l, slot, may[slot])
				}
				done(t, l.Put(1, record(77))) // each slot may be put anew
				has(t, l, 1, record(77))
			})
		}
	}
}

func TestASureRecordStaysTillItsSlotIsWritten(t *testing.T) { // P7.5
	for _, jobs := range [][]job{{{0, 2}}, {{0, -1}}, {{2, 5}, {0, -1}, {0, 9}}} {
		for n := range 40 {
			s, d, l := fresh(t, 3)
			done(t, l.Put(1, record(1)))
			done(t, d.Flush())
			s.Stop(n)
			run(d, l, jobs, noneYet(3))
			crashes(s, func(f *shelf.Shelf) { has(t, again(t, f, 3), 1, record(1)) })
		}
	}
}

func TestWhatWasFlushedIsThere(t *testing.T) { // P7.3, P7.5
	s, d, l := fresh(t, 3)
	done(t, l.Put(0, record(4)))
	done(t, l.Put(2, record(5)))
	done(t, l.Put(1, record(6)))
	done(t, l.Clear(1))
	done(t, d.Flush())
	s.Crash(nil)
	l = again(t, s, 3)
	has(t, l, 0, record(4))
	refuses(t, l, 1, api.ErrNone)
	has(t, l, 2, record(5))
	holds(t, l, record(4), record(5))
}

func TestRandomJobsAndCrashes(t *testing.T) { // P7.5
	r := rand.New(rand.NewSource(11))
	for range 1500 {
		slots := 1 + r.Intn(8)
		s, d, l := fresh(t, slots)
		may := noneYet(slots)
		for range 3 {
			var jobs []job
			for range 1 + r.Intn(12) {
				jobs = append(jobs, job{r.Intn(slots+1) - 1, r.Intn(60) - 10})
			}
			for k := range jobs {
				jobs[k].put = max(jobs[k].put, -1)
			}
			s.Stop(r.Intn(60))
			run(d, l, jobs, may)
			var keep []int
			for number := range s.Waits(0) {
				if r.Intn(2) == 0 {
					keep = append(keep, number)
				}
			}
			s.Crash([][]int{keep})
			d = devOf(t, s, 0)
			l = logOf(t, d, slots)
			for slot := range slots {
				hasOneOf(t, l, slot, may[slot])
				left, _ := l.Get(slot)
				may[slot] = []api.Record{left}
			}
		}
	}
}

func TestADiskThatDiesKeepsNothingOfAPut(t *testing.T) { // P7.2
	for _, flushed := range []bool{false, true} {
		s, d, l := fresh(t, 1)
		done(t, l.Put(0, record(1)))
		if flushed {
			done(t, d.Flush())
		}
		done(t, s.Kill(0))
		is(t, "Put", l.Put(0, record(2)), api.ErrDead)
		is(t, "Clear", l.Clear(0), api.ErrDead)
		refuses(t, l, 0, api.ErrDead)
		holds(t, l)
	}
}

func TestBytesThatTurn(t *testing.T) { // P7.4, P6 of the whole
	s, d, l := fresh(t, 1)
	r := record(12)
	done(t, l.Put(0, r))
	done(t, d.Flush())
	for at := range 128 {
		for _, with := range []byte{1, 0x80, 0xff} {
			for n := 2; n <= 3; n++ {
				turn(t, s, n, at, with)
				refuses(t, l, 0, api.ErrBad)
				turn(t, s, n, at, with)
				has(t, l, 0, r)
			}
		}
	}
	for n := 2; n <= 3; n++ {
		for at := range 4 {
			turnSum(t, s, n, 0, at, 0x20) // the sum of what it had: nobody asks for it
			has(t, l, 0, r)
			turnSum(t, s, n, 1, at, 0x20)
			refuses(t, l, 0, api.ErrBad)
			turnSum(t, s, n, 0, at, 0x20)
			refuses(t, l, 0, api.ErrBad)
			turnSum(t, s, n, 1, at, 0x20)
			has(t, l, 0, r)
		}
	}
}

func TestASlotThatTurnedIsPutAnewOrCleared(t *testing.T) { // P7.2, P7.3
	for n := 2; n <= 3; n++ {
		s, d, l := fresh(t, 1)
		done(t, l.Put(0, record(12)))
		done(t, d.Flush())
		turn(t, s, n, 100, 9)
		f := s.Fork()
		done(t, l.Put(0, record(13)))
		has(t, l, 0, record(13))
		other := again(t, f, 1)
		done(t, other.Clear(0))
		refuses(t, other, 0, api.ErrNone)
	}
}

func TestLogsOverOneDiskShareIt(t *testing.T) { // R3, R5
	s := shelfOf(t, 2, 20)
	d, far := devOf(t, s, 0), devOf(t, s, 1)
	a, b, other := logOf(t, d, 3), logOf(t, d, 2), logOf(t, far, 3)
	done(t, a.Put(1, record(1)))
	done(t, a.Put(2, record(2)))
	has(t, b, 1, record(1))
	refuses(t, b, 2, api.ErrArg)
	holds(t, b, record(1))
	holds(t, other)
	done(t, b.Clear(1))
	holds(t, a, record(2))
	done(t, other.Put(0, record(3)))
	holds(t, a, record(2))
	holds(t, other, record(3))
}

func TestNoLog(t *testing.T) { // P7.2
	var l *Log
	for _, slot := range edges() {
		refuses(t, l, slot, api.ErrClosed)
		is(t, "Put", l.Put(slot, record(1)), api.ErrClosed)
		is(t, "Put of what may not be", l.Put(slot, api.Record{}), api.ErrClosed)
		is(t, "Clear", l.Clear(slot), api.ErrClosed)
		refuses(t, &Log{}, slot, api.ErrArg) // a log that was not opened has no slots
		is(t, "Put", new(Log).Put(slot, record(1)), api.ErrArg)
		is(t, "Clear", new(Log).Clear(slot), api.ErrArg)
	}
	if l.All() != nil || new(Log).All() != nil {
		t.Error("there is nothing in no log")
	}
}

func TestNoCallPanics(t *testing.T) { // P1, R1
	_, d, l := fresh(t, 3)
	for _, x := range edges() {
		for _, y := range edges() {
			for _, part := range parts() {
				r := api.Record{Stripe: x, Place: y, Part: part}
				Encode(r)
				Decode(cut(r), part)
				Decode(part, part)
				if !mayBeToo(r) || y > 3 {
					l.Put(y, r)
				}
			}
			Open(d, x)
		}
		l.Get(x)
		l.Clear(x)
	}
	for n := range 300 {
		Decode(make([]byte, n), make([]byte, n))
		Decode(bytes.Repeat([]byte{'P'}, n), nil)
		Decode(nil, make([]byte, n))
	}
}
