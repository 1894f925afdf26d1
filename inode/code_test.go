package inode

import (
	"bytes"
	"encoding/binary"
	"math"
	"math/rand"
	"testing"

	"ashlar/api"
)

// edges are numbers at which a call may go wrong.
func edges() []int {
	return []int{
		math.MinInt, math.MinInt + 1, -1 << 32, -1024, -128, -2, -1, 0, 1, 2, 3, 127, 128, 129, 200, 201, 255, 256,
		1023, 1024, 1025, 61440, 61441, 65535, 65536, 136191, 136192, 136193, 1<<32 - 1, 1 << 32, 1<<32 + 1,
		math.MaxInt - 1024, math.MaxInt - 1, math.MaxInt,
	}
}

// coded are a file's bytes, told without the package.
func coded(n api.Inode) []byte {
	b := []byte{byte(n.Kind), 0}
	b = binary.LittleEndian.AppendUint16(b, uint16(n.Links))
	for _, x := range append([]int{n.Size}, append(n.Direct[:], n.Single, n.Double)...) {
		b = binary.LittleEndian.AppendUint32(b, uint32(x))
	}
	return append(b, make([]byte, 64-len(b))...)
}

// files are some that may be.
func files() []api.Inode {
	list := []api.Inode{
		{},
		{Kind: api.KindFile},
		{Kind: api.KindDir},
		{Kind: api.KindFile, Links: 1},
		{Kind: api.KindDir, Links: 200, Size: 136192, Single: 65535, Double: 65535},
		{Kind: api.KindFile, Links: 200, Size: 65536, Direct: [8]int{1, 2, 3, 4, 5, 6, 7, 8}, Single: 9, Double: 10},
		{Kind: api.KindFile, Direct: [8]int{65535, 256, 255, 0, 0, 0, 0, 65535}, Double: 258},
	}
	r := rand.New(rand.NewSource(1))
	for range 50 {
		n := api.Inode{Kind: 1 + r.Intn(2), Links: r.Intn(201), Size: r.Intn(136193), Single: r.Intn(65536), Double: r.Intn(65536)}
		for i := range n.Direct {
			n.Direct[i] = r.Intn(65536)
		}
		list = append(list, n)
	}
	return list
}

func TestAFileIs64Bytes(t *testing.T) { // P13.1
	for _, n := range files() {
		b, e := Encode(n)
		if !bytes.Equal(b, coded(n)) || e != api.OK {
			t.Errorf("Encode(%v) = %x, %d, not %x", n, b, e, coded(n))
		}
		if got, e := Decode(coded(n)); got != n || e != api.OK {
			t.Errorf("Decode of %v = %v, %d", n, got, e)
		}
	}
}

// numbersOf are all of a file's, and what each may be at most.
func numbersOf(n *api.Inode) (list []*int, most []int) {
	list, most = []*int{&n.Kind, &n.Links, &n.Size, &n.Single, &n.Double}, []int{2, 200, 136192, 65535, 65535}
	for i := range n.Direct {
		list, most = append(list, &n.Direct[i]), append(most, 65535)
	}
	return list, most
}

func TestEncodeRefusesWhatMayNotBe(t *testing.T) { // P13.1, R1
	for _, kind := range []int{0, 1, 2} {
		for i := range 13 {
			for _, x := range edges() {
				n := api.Inode{Kind: kind}
				list, most := numbersOf(&n)
				*list[i] = x
				right := x >= 0 && x <= most[i] && (n.Kind != 0 || n == api.Inode{})
				b, e := Encode(n)
				if right && (e != api.OK || !bytes.Equal(b, coded(n))) || !right && (e != api.ErrArg || b != nil) {
					t.Errorf("Encode(%v) = %x, %d", n, b, e)
				}
			}
		}
	}
}

func TestDecodeRefusesOtherLengths(t *testing.T) { // P13.1, R4
	n := files()[5]
	long := append(coded(n), coded(n)...)
	for k := range len(long) {
		got, e := Decode(long[:k])
		if k == 64 && (got != n || e != api.OK) || k != 64 && (e != api.ErrCode || got != api.Inode{}) {
			t.Errorf("Decode of %d bytes = %v, %d", k, got, e)
		}
	}
	if got, e := Decode(nil); e != api.ErrCode || (got != api.Inode{}) {
		t.Errorf("Decode(nil) = %v, %d", got, e)
	}
	if got, e := Decode(make([]byte, 128)); e != api.ErrCode || (got != api.Inode{}) {
		t.Errorf("Decode of 128 noughts = %v, %d", got, e)
	}
}

// said is what 64 bytes say, told without the package.
func said(b []byte) (api.Inode, bool) {
	n := api.Inode{Kind: int(b[0]), Links: int(binary.LittleEndian.Uint16(b[2:])), Size: int(binary.LittleEndian.Uint32(b[4:]))}
	for i := range 10 {
		x := int(binary.LittleEndian.Uint32(b[8+4*i:]))
		switch {
		case i < 8:
			n.Direct[i] = x
		case i == 8:
			n.Single = x
		default:
			n.Double = x
		}
	}
	list, most := numbersOf(&n)
	for i, x := range list {
		if *x > most[i] {
			return api.Inode{}, false
		}
	}
	if b[1] != 0 || !bytes.Equal(b[48:], make([]byte, 16)) || n.Kind == 0 && n != (api.Inode{}) {
		return api.Inode{}, false
	}
	return n, true
}

func TestDecodeTellsWhatEachByteSays(t *testing.T) { // P13.1
	for _, n := range files()[:9] {
		for i := range 64 {
			for _, x := range []byte{0, 1, 2, 3, 127, 128, 200, 201, 255} {
				b := coded(n)
				b[i] = x
				want, right := said(b)
				got, e := Decode(b)
				if right && (got != want || e != api.OK) || !right && (e != api.ErrCode || got != api.Inode{}) {
					t.Errorf("Decode(%x) = %v, %d", b, got, e)
				}
			}
		}
	}
}
