package journal

import (
	"bytes"
	"encoding/binary"
	"hash/crc32"
	"slices"
	"testing"

	"ashlar/api"
)

// sumOf is the sum of some blocks, one behind the other.
func sumOf(blocks ...[]byte) uint32 {
	return crc32.Checksum(slices.Concat(blocks...), crc32.MakeTable(crc32.Castagnoli))
}

// sealed is a block of 128 bytes by the chapter's words, of which each number may be any one.
func sealed(magic string, seq uint64, numbers ...uint32) []byte {
	b := binary.LittleEndian.AppendUint64([]byte(magic), seq)
	for _, x := range numbers {
		b = binary.LittleEndian.AppendUint32(b, x)
	}
	b = append(b, make([]byte, 124-len(b))...)
	return binary.LittleEndian.AppendUint32(b, sumOf(b))
}

const most62 = 1 << 62

// seqs are some numbers, and whether they may be a seq.
var seqs = []struct {
	seq int
	may bool
}{
	{-1 << 63, false}, {-1, false}, {0, false}, {1, true}, {2, true}, {300, true}, {1 << 40, true},
	{most62 - 1, true}, {most62, true}, {most62 + 1, false}, {1<<63 - 1, false},
}

// places are some numbers, and whether they may be an at, or a target.
var places = []struct {
	at  int
	may bool
}{
	{-1 << 63, false}, {-1, false}, {0, true}, {1, true}, {258, true}, {65534, true}, {65535, true},
	{65536, false}, {1 << 32, false}, {1<<63 - 1, false},
}

// made fails if a call did not make a block, or made one that may not be.
func made(t *testing.T, what string, b []byte, e api.Errno, may bool, want []byte) {
	t.Helper()
	if !may {
		if e != api.ErrArg || b != nil {
			t.Errorf("%s = %x, %d", what, b, e)
		}
		return
	}
	if e != api.OK || !bytes.Equal(b, want) {
		t.Errorf("%s = %x, %d, not %x", what, b, e, want)
	}
}

func TestHead(t *testing.T) { // P11.1, P11.5, R1
	for _, x := range seqs {
		for _, y := range places {
			b, e := Head(x.seq, y.at)
			may := x.may && y.may
			want := sealed("JHDR", uint64(x.seq), uint32(y.at))
			made(t, "a head", b, e, may, want)
			if seq, at, e := ReadHead(b); may && (seq != x.seq || at != y.at || e != api.OK) {
				t.Errorf("ReadHead of (%d, %d) = %d, %d, %d", x.seq, y.at, seq, at, e)
			}
		}
	}
}

// manyTargets are so many, each another one.
func manyTargets(n int) []int {
	targets := make([]int, n)
	for i := range targets {
		targets[i] = 65535 - 700*i
	}
	return targets
}

// asNumbers are a desc's numbers.
func asNumbers(turned uint32, targets ...int) []uint32 {
	l := []uint32{uint32(len(targets)), turned}
	for _, x := range targets {
		l = append(l, uint32(x))
	}
	return l
}

func TestDesc(t *testing.T) { // P11.1, P11.5, R1
	type ask struct {
		seq     int
		targets []int
		turned  uint32
		may     bool
	}
	var asks []ask
	for _, x := range seqs {
		asks = append(asks, ask{x.seq, []int{3}, 0, x.may}, ask{x.seq, nil, 0, false})
	}
	for _, x := range places {
		asks = append(asks, ask{5, []int{x.at}, 1, x.may}, ask{5, []int{x.at, 7}, 1, x.may},
			ask{5, append(manyTargets(23), x.at), 1 << 23, x.may}, ask{5, append(manyTargets(24), x.at), 0, false})
	}
	for _, n := range []int{0, 1, 2, 23, 24, 25, 32, 33, 1000} {
		fits := n >= 1 && n <= 24
		asks = append(asks, ask{9, manyTargets(n), 0, fits}, ask{9, make([]int, n), 0, fits})
		for bit := range 32 {
			asks = append(asks, ask{9, manyTargets(n), 1 << bit, fits && bit < n})
		}
		asks = append(asks, ask{9, manyTargets(n), 1<<32 - 1, false}, ask{9, manyTargets(n), 1<<(n%32) - 1, fits})
	}
	asks = append(asks, ask{9, []int{4, 4, 4}, 5, true}, ask{9, []int{}, 0, false})
	for _, x := range asks {
		given := slices.Clone(x.targets)
		b, e := Desc(x.seq, x.targets, x.turned)
		if !slices.Equal(given, x.targets) {
			t.Fatal("what was handed in was changed")
		}
		if !x.may {
			made(t, "a desc", b, e, false, nil)
			continue
		}
		made(t, "a desc", b, e, true, sealed("JDSC", uint64(x.seq), asNumbers(x.turned, x.targets...)...))
		seq, targets, turned, e := ReadDesc(b)
		if seq != x.seq || !slices.Equal(targets, x.targets) || turned != x.turned || e != api.OK {
			t.Errorf("ReadDesc of %+v = %d, %v, %x, %d", x, seq, targets, turned, e)
		}
	}
}

func TestMark(t *testing.T) { // P11.1, P11.5, R1
	for _, x := range seqs {
		for _, sum := range []uint32{0, 1, 0x01020304, 1 << 31, 1<<32 - 1} {
			b, e := Mark(x.seq, sum)
			made(t, "a mark", b, e, x.may, sealed("JCMT", uint64(x.seq), sum))
			if seq, told, e := ReadMark(b); x.may && (seq != x.seq || told != sum || e != api.OK) {
				t.Errorf("ReadMark of (%d, %x) = %d, %x, %d", x.seq, sum, seq, told, e)
			}
		}
	}
}

// The readers are called one by one, since their answers differ: each tells whether it took the block.
func takesHead(t *testing.T, b []byte) bool {
	seq, at, e := ReadHead(b)
	return tookIt(t, e, seq == 0 && at == 0)
}

func takesDesc(t *testing.T, b []byte) bool {
	seq, targets, turned, e := ReadDesc(b)
	return tookIt(t, e, seq == 0 && targets == nil && turned == 0)
}

func takesMark(t *testing.T, b []byte) bool {
	seq, sum, e := ReadMark(b)
	return tookIt(t, e, seq == 0 && sum == 0)
}

func tookIt(t *testing.T, e api.Errno, nothing bool) bool {
	t.Helper()
	if e != api.OK && (e != api.ErrCode || !nothing) {
		t.Errorf("error %d, and beside it: nothing %v", e, nothing)
	}
	return e == api.OK
}

var readers = []struct {
	what  string
	takes func(t *testing.T, b []byte) bool
}{{"ReadHead", takesHead}, {"ReadDesc", takesDesc}, {"ReadMark", takesMark}}

// samples are blocks of each kind, in the order of the readers.
func samples() [][][]byte {
	return [][][]byte{
		{sealed("JHDR", 1, 0), sealed("JHDR", most62, 65535), sealed("JHDR", 77, 1)},
		{
			sealed("JDSC", 1, 1, 0, 0), sealed("JDSC", most62, asNumbers(1<<24-1, manyTargets(24)...)...),
			sealed("JDSC", 77, 2, 2, 5, 6),
		},
		{sealed("JCMT", 1, 0), sealed("JCMT", most62, 1<<32-1), sealed("JCMT", 77, 12345)},
	}
}

func TestOnlyItsOwnKindIsRead(t *testing.T) { // P11.1, P11.5
	for kind, blocks := range samples() {
		for _, b := range blocks {
			for k, reader := range readers {
				if got := reader.takes(t, b); got != (k == kind) {
					t.Errorf("%s takes %x: %v", reader.what, b, got)
				}
				for _, other := range [][]byte{nil, {}, b[:1], b[:12], b[:127], append(slices.Clone(b), 0)} {
					if reader.takes(t, other) {
						t.Errorf("%s takes %d bytes", reader.what, len(other))
					}
				}
			}
		}
	}
	for _, reader := range readers {
		for _, b := range [][]byte{make([]byte, 127), make([]byte, 128), make([]byte, 129), bytes.Repeat([]byte{255}, 128)} {
			if reader.takes(t, b) {
				t.Errorf("%s takes %x", reader.what, b)
			}
		}
	}
}

func TestAnyOtherByteIsTold(t *testing.T) { // P11.5
	for _, blocks := range samples() {
		for _, b := range blocks {
			for at := range b {
				for x := 1; x < 256; x++ {
					b[at] ^= byte(x)
					for _, reader := range readers {
						if reader.takes(t, b) {
							t.Errorf("%s takes %x: of the byte %d %x were turned", reader.what, b, at, x)
						}
					}
					b[at] ^= byte(x)
				}
			}
		}
	}
}

func TestSealedOnesThatMayNotBe(t *testing.T) { // P11.1, P11.5: their sums are right
	full := asNumbers(0, manyTargets(24)...)
	for _, b := range [][]byte{
		sealed("JHDR", 0, 0), sealed("JHDR", most62+1, 0), sealed("JHDR", 1<<63, 0), sealed("JHDR", 1<<64-1, 0),
		sealed("JHDR", 1, 65536), sealed("JHDR", 1, 1<<32-1), sealed("JHDR", 1, 0, 1), sealed("JHDR", 1, 0, 0, 1<<31),
		sealed("jHDR", 1, 0), sealed("JHDX", 1, 0), sealed("RDHJ", 1, 0),
		sealed("JDSC", 0, 1, 0, 0), sealed("JDSC", most62+1, 1, 0, 0), sealed("JDSC", 1<<63, 1, 0, 0),
		sealed("JDSC", 1, 0, 0), sealed("JDSC", 1, 0, 0, 5), sealed("JDSC", 1, 25, 0), sealed("JDSC", 1, 1<<31, 0, 0),
		sealed("JDSC", 1, 1<<32-1, 0, 0), sealed("JDSC", 1, append([]uint32{25}, full[1:]...)...),
		sealed("JDSC", 1, 1, 2, 0), sealed("JDSC", 1, 2, 4, 0, 0), sealed("JDSC", 1, 1, 1<<31, 0),
		sealed("JDSC", 1, append([]uint32{24, 1 << 24}, full[2:]...)...),
		sealed("JDSC", 1, 1, 0, 65536), sealed("JDSC", 1, 1, 0, 1<<32-1), sealed("JDSC", 1, 2, 0, 7, 65536),
		sealed("JDSC", 1, 1, 0, 7, 8), sealed("JDSC", 1, append(slices.Clone(full), 1)...),
		sealed("JDSC", 1, append([]uint32{23}, full[1:]...)...), sealed("JCST", 1, 1, 0, 0),
		sealed("JCMT", 0, 5), sealed("JCMT", most62+1, 5), sealed("JCMT", 1<<63, 5), sealed("JCMT", 1<<64-1, 5),
		sealed("JCMT", 1, 5, 1), sealed("JCMT", 1, append(make([]uint32, 27), 1)...), sealed("JCMX", 1, 5),
	} {
		for _, reader := range readers {
			if reader.takes(t, b) {
				t.Errorf("%s takes %x", reader.what, b)
			}
		}
	}
}

func TestBlocksAreTheCallers(t *testing.T) { // R3
	head, _ := Head(5, 6)
	mark, _ := Mark(5, 6)
	given := []int{7, 8}
	desc, _ := Desc(5, given, 1)
	kept := slices.Clone(desc)
	given[0] = 9
	if !bytes.Equal(desc, kept) {
		t.Error("a desc shares its targets")
	}
	_, targets, _, _ := ReadDesc(desc)
	clear(desc)
	clear(head)
	clear(mark)
	if !slices.Equal(targets, []int{7, 8}) {
		t.Error("targets share a desc's bytes")
	}
	for _, targets := range [][]int{targets[:1:1], append(targets, 5)} {
		if b, e := Desc(5, targets, 0); e != api.OK || len(b) != 128 {
			t.Error(b, e)
		}
	}
	again, _ := Head(5, 6)
	made(t, "a head once more", again, api.OK, true, sealed("JHDR", 5, 6))
	again, _ = Mark(5, 6)
	made(t, "a mark once more", again, api.OK, true, sealed("JCMT", 5, 6))
}
