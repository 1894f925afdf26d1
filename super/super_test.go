package super

import (
	"bytes"
	"encoding/binary"
	"hash/crc32"
	"math"
	"math/rand"
	"testing"

	"ashlar/api"
)

// edges are whole numbers at which a call may go wrong.
func edges() []int {
	return []int{
		math.MinInt, math.MinInt + 1, math.MinInt / 2, -1 << 32, -257, -256, -255, -2, -1,
		0, 1, 2, 3, 4, 5, 8, 9, 15, 16, 17, 127, 128, 254, 255, 256, 257, 259, 1023, 1024, 1025, 1 << 16, 1 << 31, 1<<32 - 1, 1 << 32, 1<<32 + 1, 1<<32 + 3,
		1<<62 - 1, 1 << 62, 1<<62 + 1, math.MaxInt - 1, math.MaxInt,
	}
}

// wholes may all be said.
func wholes() []api.Super {
	return []api.Super{
		{Gen: 1, Members: 3, Disk: 0, Stripes: 1, Logs: 1, Spare: -1},
		{Gen: 3, Members: 4, Disk: 1, Stripes: 9, Logs: 2, Spare: -1, Cursor: 5},
		{Gen: 2, Members: 4, Disk: 4, Stripes: 40, Logs: 1, Spare: 0, Mark: 0, Cursor: 39},
		{Gen: 77, Members: 5, Disk: 5, Stripes: 600, Logs: 8, Spare: 4, Mark: 600, Cursor: 0},
		{Gen: 1 << 62, Members: 16, Disk: 16, Stripes: 1024, Logs: 8, Spare: 15, Mark: 1024, Cursor: 1023},
		{Gen: 0x0102030405060708, Members: 9, Disk: 7, Stripes: 0x302, Logs: 6, Spare: 3, Mark: 0x203, Cursor: 0x102},
	}
}

// fields are a Super's numbers, to be changed one by one.
func fields(s *api.Super) map[string]*int {
	return map[string]*int{
		"Gen": &s.Gen, "Members": &s.Members, "Disk": &s.Disk, "Stripes": &s.Stripes,
		"Logs": &s.Logs, "Spare": &s.Spare, "Mark": &s.Mark, "Cursor": &s.Cursor,
	}
}

// right is Right, told once more, field by field.
func right(s api.Super) bool {
	switch {
	case s.Gen < 1, s.Gen > 1<<62, s.Members < 3, s.Members > 16, s.Stripes < 1, s.Stripes > 1024, s.Logs < 1, s.Logs > 8:
		return false
	case s.Disk < 0, s.Disk > s.Members, s.Spare < -1, s.Spare >= s.Members:
		return false
	case s.Mark < 0, s.Mark > s.Stripes, s.Spare == -1 && s.Mark != 0:
		return false
	}
	return s.Cursor >= 0 && s.Cursor < s.Stripes
}

// cut keeps of what is said the bytes that a block has for it, be it right or not.
func cut(s api.Super) []byte {
	b := make([]byte, 128)
	copy(b, "ASHL")
	binary.LittleEndian.PutUint64(b[4:], uint64(s.Gen))
	b[12], b[13], b[14], b[15] = byte(s.Members), byte(s.Disk), byte(s.Logs), byte(s.Spare)
	binary.LittleEndian.PutUint32(b[16:], uint32(s.Stripes))
	binary.LittleEndian.PutUint32(b[20:], uint32(s.Mark))
	binary.LittleEndian.PutUint32(b[24:], uint32(s.Cursor))
	return sealed(b)
}

// sealed gives a block the sum that its bytes have.
func sealed(b []byte) []byte {
	b = bytes.Clone(b)
	binary.LittleEndian.PutUint32(b[124:], crc32.Checksum(b[:124], crc32.MakeTable(crc32.Castagnoli)))
	return b
}

// saysNothing fails if the block says something.
func saysNothing(t *testing.T, b []byte, what string) {
	t.Helper()
	if s, e := Decode(b); e != api.ErrCode || s != (api.Super{}) {
		t.Errorf("%s: Decode = %+v, %d", what, s, e)
	}
}

func TestExample(t *testing.T) { // the chapter's example
	b, e := Encode(api.Super{Gen: 1, Members: 3, Disk: 0, Stripes: 1, Logs: 1, Spare: -1})
	want := []byte{0x41, 0x53, 0x48, 0x4c, 1, 0, 0, 0, 0, 0, 0, 0, 3, 0, 1, 0xff, 1, 0, 0, 0}
	if e != api.OK || len(b) != 128 || !bytes.HasPrefix(b, want) {
		t.Errorf("%x, %d", b, e)
	}
}

func TestRightTakesAndRefusesAtEachEdge(t *testing.T) { // P4.1
	base := api.Super{Gen: 5, Members: 6, Disk: 2, Stripes: 100, Logs: 3, Spare: 2, Mark: 7, Cursor: 9}
	for _, c := range []struct {
		field       string
		least, most int
	}{
		{"Gen", 1, 1 << 62}, {"Members", 3, 16}, {"Disk", 0, 6}, {"Stripes", 10, 1024},
		{"Logs", 1, 8}, {"Spare", 0, 5}, {"Mark", 0, 100}, {"Cursor", 0, 99},
	} {
		for _, x := range append(edges(), c.least-1, c.least, c.most, c.most+1) {
			s := base
			*fields(&s)[c.field] = x
			want := x >= c.least && x <= c.most
			if Right(s) != want {
				t.Errorf("Right(%+v) = %v", s, !want)
			}
		}
	}
}

func TestRightOfFieldsThatHangOnOthers(t *testing.T) { // P4.1
	for _, c := range []struct {
		s    api.Super
		want bool
	}{
		{api.Super{}, false},
		{api.Super{Gen: 1, Members: 3, Disk: 3, Stripes: 1, Logs: 1, Spare: -1}, true},
		{api.Super{Gen: 1, Members: 3, Disk: 4, Stripes: 1, Logs: 1, Spare: -1}, false},
		{api.Super{Gen: 1, Members: 3, Stripes: 1, Logs: 1, Spare: 2}, true},
		{api.Super{Gen: 1, Members: 3, Stripes: 1, Logs: 1, Spare: 3}, false},
		{api.Super{Gen: 1, Members: 3, Stripes: 1, Logs: 1, Spare: -2}, false},
		{api.Super{Gen: 1, Members: 3, Stripes: 1, Logs: 1, Spare: -1, Mark: 1}, false},
		{api.Super{Gen: 1, Members: 3, Stripes: 1, Logs: 1, Spare: 0, Mark: 1}, true},
		{api.Super{Gen: 1, Members: 3, Stripes: 1, Logs: 1, Spare: 0, Mark: 2}, false},
		{api.Super{Gen: 1, Members: 3, Stripes: 1, Logs: 1, Spare: -1, Cursor: 1}, false},
		{api.Super{Gen: 1, Members: 3, Stripes: 2, Logs: 1, Spare: -1, Cursor: 1}, true},
	} {
		if Right(c.s) != c.want {
			t.Errorf("Right(%+v) = %v", c.s, !c.want)
		}
	}
}

func TestEncodeTellsTheBlock(t *testing.T) { // P4.1
	for _, s := range wholes() {
		if b, e := Encode(s); e != api.OK || !bytes.Equal(b, cut(s)) {
			t.Errorf("Encode(%+v) = %x, %d, not %x", s, b, e, cut(s))
		}
	}
	b, e := Encode(wholes()[5])
	want := []byte{'A', 'S', 'H', 'L', 8, 7, 6, 5, 4, 3, 2, 1, 9, 7, 6, 3, 2, 3, 0, 0, 3, 2, 0, 0, 2, 1, 0, 0}
	if e != api.OK || !bytes.HasPrefix(b, want) || !bytes.Equal(b[28:124], make([]byte, 96)) {
		t.Errorf("%x, %d", b, e)
	}
}

func TestEncodeAndDecodeRefuseWhatIsNotRight(t *testing.T) { // P4.1
	for _, whole := range wholes() {
		for name := range fields(&whole) {
			for _, x := range edges() {
				s := whole
				*fields(&s)[name] = x
				b, e := Encode(s)
				if right(s) != (e == api.OK) || right(s) != (len(b) == 128) || (e != api.OK && (e != api.ErrArg || b != nil)) {
					t.Errorf("Encode(%+v) = %x, %d", s, b, e)
				}
				// The block has bytes that no longer tell all of x: what they tell may be right where x is not.
				told, e := Decode(cut(s))
				if e == api.OK && (!right(told) || !bytes.Equal(cut(told), cut(s))) {
					t.Errorf("Decode of %+v = %+v", s, told)
				}
				if right(s) && (e != api.OK || told != s) {
					t.Errorf("Decode of %+v = %+v, %d", s, told, e)
				}
			}
		}
	}
}

func TestDecodeRefusesNumbersThatMayNotBeSaid(t *testing.T) { // P4.1
	base := api.Super{Gen: 5, Members: 6, Disk: 2, Stripes: 100, Logs: 3, Spare: 2, Mark: 7, Cursor: 9}
	for name, l := range map[string][]int{
		"Gen":     {0, 1<<62 + 1, math.MaxInt, math.MinInt, math.MinInt + 5, -1},
		"Members": {0, 1, 2, 17, 128, 255},
		"Disk":    {7, 17, 128, 254, 255},
		"Logs":    {0, 9, 255},
		"Spare":   {255, 254, 253, 128, 127, 16, 6},
		"Stripes": {0, 7, 9, 1025, 65636, 1 << 31, 1<<32 - 1},
		"Mark":    {101, 1 << 8, 1 << 31, 1<<32 - 1},
		"Cursor":  {100, 1 << 16, 1 << 31, 1<<32 - 1},
	} {
		for _, x := range l {
			s := base
			*fields(&s)[name] = x
			saysNothing(t, cut(s), name)
		}
	}
}

func TestDecodeRefusesOtherBytes(t *testing.T) { // P4.1
	whole, _ := Encode(wholes()[4])
	for at := range 124 {
		if at >= 4 && at < 28 {
			continue
		}
		b := bytes.Clone(whole)
		b[at]++ // the sign, or a nought: the sum says that it is as it was written
		saysNothing(t, sealed(b), "another sign, or no noughts")
	}
	saysNothing(t, sealed(make([]byte, 128)), "noughts with their sum")
	saysNothing(t, make([]byte, 128), "noughts")
	saysNothing(t, bytes.Repeat([]byte{0xff}, 128), "ones")
}

func TestDecodeRefusesOtherLengths(t *testing.T) { // P4.1, R4
	whole, _ := Encode(wholes()[1])
	long := append(bytes.Clone(whole), make([]byte, 128)...)
	saysNothing(t, nil, "nil")
	saysNothing(t, []byte{}, "none")
	for n := range len(long) {
		if n != 128 {
			saysNothing(t, long[:n], "another length")
		}
	}
	if s, e := Decode(long[:128]); e != api.OK || s != wholes()[1] {
		t.Errorf("%+v, %d", s, e)
	}
}

func TestSlotTurns(t *testing.T) { // P4.2
	for _, gen := range edges() {
		want := 0
		if gen%2 != 0 {
			want = 1
		}
		if n := Slot(gen); n != want {
			t.Errorf("Slot(%d) = %d", gen, n)
		}
	}
}

func TestNewestIsTheFirstOfTheGreatest(t *testing.T) { // P4.2
	for _, c := range []struct {
		gens []int
		want int
	}{
		{[]int{0}, 0}, {[]int{-5}, 0}, {[]int{1, 2}, 1}, {[]int{2, 1}, 0}, {[]int{3, 3, 3}, 0},
		{[]int{1, 9, 2, 9, 9}, 1}, {[]int{-3, -2, -9}, 1}, {[]int{math.MinInt, math.MaxInt, math.MaxInt}, 1},
		{[]int{math.MinInt, math.MinInt}, 0}, {[]int{0, 1 << 62, 1<<62 + 1}, 2},
	} {
		var l []api.Super
		for i, gen := range c.gens {
			l = append(l, api.Super{Gen: gen, Cursor: len(c.gens) - i, Disk: i})
		}
		if i, ok := Newest(l); i != c.want || !ok {
			t.Errorf("Newest of %v = %d, %v", c.gens, i, ok)
		}
	}
	for _, l := range [][]api.Super{nil, {}, wholes()[:0]} {
		if i, ok := Newest(l); i != 0 || ok {
			t.Errorf("Newest of none = %d, %v", i, ok)
		}
	}
}

func TestAlikeButForDisk(t *testing.T) { // P4.2
	for _, s := range append(wholes(), api.Super{}, api.Super{Gen: -1, Members: math.MinInt}) {
		for name := range fields(&s) {
			for _, x := range edges() {
				other := s
				*fields(&other)[name] = x
				want := name == "Disk" || other == s
				if Alike(s, other) != want || Alike(other, s) != want {
					t.Errorf("Alike(%+v, %+v) = %v", s, other, !want)
				}
			}
		}
	}
}

// some is something that may be said.
func some(r *rand.Rand) api.Super {
	s := api.Super{Gen: 1 + r.Intn(1<<62), Members: 3 + r.Intn(14), Stripes: 1 + r.Intn(1024), Logs: 1 + r.Intn(8)}
	s.Disk, s.Spare, s.Cursor = r.Intn(s.Members+1), r.Intn(s.Members+1)-1, r.Intn(s.Stripes)
	if s.Spare >= 0 {
		s.Mark = r.Intn(s.Stripes + 1)
	}
	return s
}

func TestWhatWasEncodedIsDecoded(t *testing.T) { // P4.3
	r := rand.New(rand.NewSource(4))
	said := map[string]api.Super{}
	for range 5000 {
		s := some(r)
		b, e := Encode(s)
		if e != api.OK || !Right(s) {
			t.Fatalf("Encode(%+v) = %d", s, e)
		}
		if x, e := Decode(b); e != api.OK || x != s {
			t.Fatalf("%+v became %+v, %d", s, x, e)
		}
		if other, is := said[string(b)]; is && other != s {
			t.Errorf("%+v and %+v say the same", s, other)
		}
		said[string(b)] = s
	}
}

func TestNoTwoSayTheSame(t *testing.T) { // P4.3
	said := map[string]api.Super{}
	for _, whole := range wholes() {
		for name := range fields(&whole) {
			for x := -1; x <= 1024; x++ {
				s := whole
				*fields(&s)[name] = x
				b, e := Encode(s)
				if e != api.OK {
					continue
				}
				if other, is := said[string(b)]; is && other != s {
					t.Errorf("%+v and %+v say the same", s, other)
				}
				said[string(b)] = s
			}
		}
	}
}

func TestOneOtherByteSaysNothing(t *testing.T) { // P4.4
	for _, s := range wholes() {
		b, _ := Encode(s)
		for at := range b {
			for x := range 256 {
				other := bytes.Clone(b)
				other[at] = byte(x)
				if other[at] != b[at] {
					saysNothing(t, other, "another byte")
				}
			}
		}
	}
}

func TestArgumentsStayAndAnswersAreNew(t *testing.T) { // R3, R5
	s := wholes()[3]
	first, _ := Encode(s)
	was := bytes.Clone(first)
	if x, e := Decode(first); e != api.OK || x != s || !bytes.Equal(first, was) {
		t.Errorf("%+v, %d: %x became %x", x, e, was, first)
	}
	for i := range first {
		first[i]++
	}
	if second, e := Encode(s); e != api.OK || !bytes.Equal(second, was) {
		t.Errorf("%x, then %x, %d", was, second, e)
	}
	l := wholes()
	Newest(l)
	for i, x := range wholes() {
		if l[i] != x {
			t.Errorf("%+v became %+v", x, l[i])
		}
	}
}

func TestNoCallPanics(t *testing.T) { // P1, R1
	for _, x := range edges() {
		for _, y := range edges() {
			for _, s := range []api.Super{
				{Gen: x, Members: y, Disk: x, Stripes: y, Logs: x, Spare: y, Mark: x, Cursor: y},
				{Gen: 1, Members: x, Disk: 0, Stripes: y, Logs: 1, Spare: x, Mark: y, Cursor: x},
				{Gen: 1, Members: 3, Disk: 0, Stripes: 9, Logs: 1, Spare: x, Mark: y, Cursor: 0},
			} {
				if Right(s) != right(s) {
					t.Errorf("Right(%+v) = %v", s, Right(s))
				}
				Encode(s)
				Decode(cut(s))
				Alike(s, api.Super{})
				Newest([]api.Super{s, {}, s})
			}
		}
		Slot(x)
	}
	for n := range 300 {
		Decode(make([]byte, n))
		Decode(bytes.Repeat([]byte{'A'}, n))
	}
}
