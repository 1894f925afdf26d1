package octets

import (
	"bytes"
	"encoding/binary"
	"hash/crc32"
	"math"
	"math/bits"
	"math/rand"
	"slices"
	"testing"

	"ashlar/api"
)

// edges are whole numbers at which a call may go wrong.
func edges() []int {
	return []int{
		math.MinInt, math.MinInt + 1, math.MinInt + 7, math.MinInt / 8, -64, -9, -8, -7, -2, -1,
		0, 1, 2, 3, 7, 8, 9, 15, 16, 17, 23, 24, 25, 31, 32, 33, 63, 64, 65,
		math.MaxInt / 8, math.MaxInt/8 + 1, math.MaxInt - 8, math.MaxInt - 7, math.MaxInt - 1, math.MaxInt,
	}
}

// texts are bytes of several lengths; behind the length of some there lies more.
func texts() [][]byte {
	long := bytes.Repeat([]byte{0xff, 0x00, 0xa5, 0x7f, 0x80}, 13)
	return [][]byte{
		nil, {}, {0}, {0xff}, {0x80}, {0x01}, {7}, {0xff, 0xfe}, {0xff, 0xff, 0xff}, {0, 0, 0, 0x80},
		long, long[:3], long[5:14], {1, 2, 3, 4, 5, 6, 7, 8, 9},
	}
}

// put is Put by the library.
func put(x uint64, n int) []byte {
	return binary.LittleEndian.AppendUint64(nil, x)[:n]
}

// bit is whether b's bit i is set, told without the package.
func bit(b []byte, i int) bool {
	return b[i/8]&(1<<(uint(i)%8)) != 0
}

func TestPutTellsTheBytesLowestFirst(t *testing.T) { // P1.1
	for _, c := range []struct {
		x    uint64
		n    int
		want []byte
	}{
		{0, 1, []byte{0}},
		{300, 2, []byte{0x2c, 0x01}},
		{258, 3, []byte{2, 1, 0}},
		{1, 8, []byte{1, 0, 0, 0, 0, 0, 0, 0}},
		{0x0102030405060708, 8, []byte{8, 7, 6, 5, 4, 3, 2, 1}},
		{math.MaxUint64, 8, []byte{255, 255, 255, 255, 255, 255, 255, 255}},
	} {
		if b, e := Put(c.x, c.n); e != api.OK || !bytes.Equal(b, c.want) {
			t.Errorf("Put(%d, %d) = %x, %d", c.x, c.n, b, e)
		}
	}
}

func TestPutTakesWhatJustFits(t *testing.T) { // P1.1
	for n := 1; n <= 8; n++ {
		most := uint64(math.MaxUint64) >> (64 - 8*n)
		if b, e := Put(most, n); e != api.OK || !bytes.Equal(b, bytes.Repeat([]byte{0xff}, n)) {
			t.Errorf("Put(%x, %d) = %x, %d", most, n, b, e)
		}
		if n == 8 {
			continue
		}
		for _, x := range []uint64{most + 1, math.MaxUint64, 1 << 63} {
			if b, e := Put(x, n); e != api.ErrArg || b != nil {
				t.Errorf("Put(%x, %d) = %x, %d", x, n, b, e)
			}
		}
	}
}

func TestPutAndGetRefuseOtherWidths(t *testing.T) { // P1.1
	b := make([]byte, 100)
	for _, n := range edges() {
		want := api.OK
		if n < 1 || n > 8 {
			want = api.ErrArg
		}
		if l, e := Put(0, n); e != want || (e != api.OK && l != nil) {
			t.Errorf("Put(0, %d) = %x, %d", n, l, e)
		}
		if x, e := Get(b, 1, n); e != want || x != 0 {
			t.Errorf("Get(b, 1, %d) = %d, %d", n, x, e)
		}
	}
}

func TestGetTellsTheNumber(t *testing.T) { // P1.1
	b := []byte{9, 2, 1, 0xf0, 0xff, 0x80, 0, 0, 1, 0xaa}
	for at := range b {
		for n := 1; n <= 8; n++ {
			x, e := Get(b, at, n)
			if at+n > len(b) {
				if e != api.ErrArg || x != 0 {
					t.Errorf("Get(b, %d, %d) = %d, %d", at, n, x, e)
				}
				continue
			}
			want := binary.LittleEndian.Uint64(append(bytes.Clone(b[at:at+n]), make([]byte, 8-n)...))
			if e != api.OK || x != want {
				t.Errorf("Get(b, %d, %d) = %d, %d, not %d", at, n, x, e, want)
			}
		}
	}
}

func TestGetRefusesPlacesThatThereAreNot(t *testing.T) { // P1.1, R4
	long := []byte{1, 2, 3, 4, 5, 6, 7, 8, 9, 10}
	for _, b := range [][]byte{nil, {}, {1}, long[:4], long} {
		for _, at := range edges() {
			for n := 1; n <= 8; n++ {
				fits := at >= 0 && at <= len(b) && n <= len(b)-at
				x, e := Get(b, at, n)
				if fits != (e == api.OK) || (!fits && (e != api.ErrArg || x != 0)) {
					t.Errorf("Get of %d bytes at %d, %d = %d, %d", len(b), at, n, x, e)
				}
			}
		}
	}
}

func TestCrcIsTheSum(t *testing.T) { // P1.2
	if c := Crc(0, []byte("123456789")); c != 0xe3069283 {
		t.Errorf("%x", c)
	}
	for _, seed := range []uint32{0, 1, 0xe3069283, math.MaxUint32} {
		if c := Crc(seed, nil); c != seed {
			t.Errorf("the sum of nothing behind %x is %x", seed, c)
		}
		if c := Crc(seed, []byte{}); c != seed {
			t.Errorf("the sum of nothing behind %x is %x", seed, c)
		}
	}
	table := crc32.MakeTable(crc32.Castagnoli)
	for x := range 256 {
		one := []byte{byte(x)}
		if c := Crc(0, one); c != crc32.Checksum(one, table) {
			t.Errorf("the sum of %x is %x", one, c)
		}
	}
	r := rand.New(rand.NewSource(1))
	for n := range 300 {
		b := make([]byte, n)
		r.Read(b)
		seed := r.Uint32()
		if c := Crc(seed, b); c != crc32.Update(seed, table, b) {
			t.Errorf("Crc(%x, %x) = %x", seed, b, c)
		}
	}
}

func TestXorIsByteByByte(t *testing.T) { // P1.2
	for _, c := range []struct{ a, b, want []byte }{
		{nil, nil, nil},
		{nil, []byte{}, nil},
		{[]byte{}, nil, nil},
		{[]byte{0xff}, []byte{0x0f}, []byte{0xf0}},
		{[]byte{1, 2, 3}, []byte{3, 2, 1}, []byte{2, 0, 2}},
		{make([]byte, 130), bytes.Repeat([]byte{0x5a}, 130), bytes.Repeat([]byte{0x5a}, 130)},
	} {
		if x, e := Xor(c.a, c.b); e != api.OK || !bytes.Equal(x, c.want) {
			t.Errorf("Xor(%x, %x) = %x, %d", c.a, c.b, x, e)
		}
	}
}

func TestXorRefusesOtherLengths(t *testing.T) { // P1.2
	long := []byte{1, 2, 3, 4}
	for _, c := range []struct{ a, b []byte }{
		{nil, []byte{1}}, {[]byte{1}, nil}, {[]byte{1, 2}, []byte{1}}, {long[:3], long}, {long, long[:3]},
	} {
		if x, e := Xor(c.a, c.b); e != api.ErrArg || x != nil {
			t.Errorf("Xor(%x, %x) = %x, %d", c.a, c.b, x, e)
		}
	}
}

func TestHasTellsEachBit(t *testing.T) { // P1.3, R4
	for _, b := range texts() {
		for i := range 8 * len(b) {
			if Has(b, i) != bit(b, i) {
				t.Errorf("Has(%x, %d) = %v", b, i, Has(b, i))
			}
		}
		for _, i := range edges() {
			if (i < 0 || i >= 8*len(b)) && Has(b, i) {
				t.Errorf("Has(%x, %d): there is no such bit", b, i)
			}
		}
	}
	if set := []byte{0xff, 0xff}; Has(set[:1], 8) {
		t.Error("a bit behind the length")
	}
}

func TestWithChangesOneBit(t *testing.T) { // P1.3
	for _, b := range texts() {
		for i := range 8 * len(b) {
			for _, on := range []bool{false, true} {
				w, e := With(b, i, on)
				if e != api.OK || len(w) != len(b) {
					t.Fatalf("With(%x, %d, %v) = %x, %d", b, i, on, w, e)
				}
				for k := range 8 * len(b) {
					want := bit(b, k)
					if k == i {
						want = on
					}
					if bit(w, k) != want {
						t.Errorf("With(%x, %d, %v) = %x", b, i, on, w)
					}
				}
			}
		}
	}
}

func TestWithRefusesBitsThatThereAreNot(t *testing.T) { // P1.3, R4
	for _, b := range texts() {
		for _, i := range append(edges(), 8*len(b), 8*len(b)+1) {
			if i >= 0 && i < 8*len(b) {
				continue
			}
			for _, on := range []bool{false, true} {
				if w, e := With(b, i, on); e != api.ErrArg || w != nil {
					t.Errorf("With(%x, %d, %v) = %x, %d", b, i, on, w, e)
				}
			}
		}
	}
}

// free is Free bit by bit.
func free(b []byte, from, n int) (int, bool) {
	for i := range 8 * len(b) {
		if i >= from && i < n && !bit(b, i) {
			return i, true
		}
	}
	return 0, false
}

func TestFreeFindsTheLeastBit(t *testing.T) { // P1.3
	if i, ok := Free([]byte{7}, 0, 8); i != 3 || !ok {
		t.Error(i, ok)
	}
	if i, ok := Free([]byte{0xff, 0xff}, 0, 16); i != 0 || ok {
		t.Error(i, ok)
	}
	for _, b := range texts() {
		around := append(edges(), 8*len(b)-1, 8*len(b), 8*len(b)+1)
		for _, from := range around {
			for _, n := range around {
				i, ok := Free(b, from, n)
				if want, is := free(b, from, n); i != want || ok != is {
					t.Errorf("Free(%x, %d, %d) = %d, %v", b, from, n, i, ok)
				}
			}
		}
	}
}

func TestFreeFromEachBitToEach(t *testing.T) { // P1.3
	b := []byte{0xfb, 0xff, 0x3f, 0xff, 0xfe}
	for from := -9; from < 50; from++ {
		for n := -9; n < 50; n++ {
			i, ok := Free(b, from, n)
			if want, is := free(b, from, n); i != want || ok != is {
				t.Errorf("Free(b, %d, %d) = %d, %v", from, n, i, ok)
			}
		}
	}
}

func TestCountCountsBelowN(t *testing.T) { // P1.3
	for _, b := range texts() {
		around := append(edges(), 8*len(b)-1, 8*len(b), 8*len(b)+1)
		for n := range 8 * len(b) {
			around = append(around, n)
		}
		for _, n := range around {
			want := 0
			for i := range 8 * len(b) {
				if i < n && bit(b, i) {
					want++
				}
			}
			if c := Count(b, n); c != want {
				t.Errorf("Count(%x, %d) = %d, not %d", b, n, c, want)
			}
		}
	}
	if c := Count(bytes.Repeat([]byte{0xff}, 600), math.MaxInt); c != 4800 {
		t.Error(c)
	}
}

func TestWhatIsPutIsGot(t *testing.T) { // P1.4
	r := rand.New(rand.NewSource(2))
	for n := 1; n <= 8; n++ {
		for at := range 20 {
			x := r.Uint64() >> (64 - 8*n)
			b, e := Put(x, n)
			if e != api.OK || !bytes.Equal(b, put(x, n)) {
				t.Fatalf("Put(%d, %d) = %x, %d", x, n, b, e)
			}
			ahead, behind := make([]byte, at), make([]byte, 3)
			r.Read(ahead)
			r.Read(behind)
			all := slices.Concat(ahead, b, behind)
			if y, e := Get(all, at, n); e != api.OK || y != x {
				t.Errorf("Get(%x, %d, %d) = %d, %d, not %d", all, at, n, y, e, x)
			}
		}
	}
}

func TestSumsJoin(t *testing.T) { // P1.5
	b := []byte("a sum goes on where another one ended")
	for k := range len(b) + 1 {
		if Crc(Crc(0, b[:k]), b[k:]) != Crc(0, b) {
			t.Errorf("cut at %d", k)
		}
		if Crc(Crc(77, b[:k]), b[k:]) != Crc(77, b) {
			t.Errorf("cut at %d, behind a seed", k)
		}
	}
}

func TestOneByteMakesAnotherSum(t *testing.T) { // P1.5
	b := []byte("any one byte")
	for k := range b {
		for x := range 256 {
			c := bytes.Clone(b)
			c[k] = byte(x)
			if (Crc(0, c) == Crc(0, b)) != (c[k] == b[k]) {
				t.Errorf("%x at %d", x, k)
			}
		}
	}
}

func TestXorTwiceChangesNothing(t *testing.T) { // P1.6
	for _, a := range texts() {
		b := bytes.Repeat([]byte{0x3c, 0xff, 0x00}, 40)[:len(a)]
		x, e := Xor(a, b)
		if e != api.OK {
			t.Fatal(e)
		}
		if y, e := Xor(x, b); e != api.OK || !bytes.Equal(y, a) {
			t.Errorf("%x became %x, %d", a, y, e)
		}
	}
}

func TestArgumentsStayAsTheyAre(t *testing.T) { // R3, R4
	whole := []byte{1, 2, 3, 4, 5, 6, 7, 8, 9, 10, 11, 12}
	was := bytes.Clone(whole)
	b := whole[2:6]
	Get(b, 0, 4)
	Crc(5, b)
	Has(b, 9)
	Free(b, 0, 40)
	Count(b, 40)
	x, _ := Xor(b, b)
	on, _ := With(b, 9, true)
	off, _ := With(b, 0, false)
	for _, l := range [][]byte{x, on, off} {
		for i := range l {
			l[i] = 0xee
		}
		_ = append(l, 0xee, 0xee)
	}
	if !bytes.Equal(whole, was) {
		t.Errorf("%x became %x", was, whole)
	}
}

func TestAnswersShareNoMemory(t *testing.T) { // R3, R5
	b := []byte{0xf0, 0x0f}
	for name, call := range map[string]func() ([]byte, api.Errno){
		"Put":  func() ([]byte, api.Errno) { return Put(300, 2) },
		"Xor":  func() ([]byte, api.Errno) { return Xor(b, b) },
		"With": func() ([]byte, api.Errno) { return With(b, 15, true) },
	} {
		first, _ := call()
		was := bytes.Clone(first)
		for i := range first {
			first[i]++
		}
		if second, e := call(); e != api.OK || !bytes.Equal(second, was) {
			t.Errorf("%s: %x, then %x, %d", name, was, second, e)
		}
	}
}

func TestNoCallPanics(t *testing.T) { // P1, R1
	for _, b := range texts() {
		for _, i := range edges() {
			for _, k := range edges() {
				Put(bits.RotateLeft64(1, k&63), i)
				Get(b, i, k)
				Free(b, i, k)
			}
			Has(b, i)
			With(b, i, true)
			With(b, i, false)
			Count(b, i)
			Crc(uint32(i), b)
		}
		for _, c := range texts() {
			Xor(b, c)
		}
	}
}
