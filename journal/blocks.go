package journal

import (
	"bytes"
	"slices"

	"ashlar/api"
	"ashlar/octets"
)

const (
	headMagic = "JHDR"
	descMagic = "JDSC"
	markMagic = "JCMT"

	seqWidth   = 8
	width      = 4 // of each number behind seq, and of the sum
	numbersAt  = len(headMagic) + seqWidth
	sumAt      = api.Sector - width
	mostNumber = 1<<16 - 1 // of an at, or a target
)

// seal is a block of a magic word, a seq and numbers: the errors of Put are left out, since each of them fits.
func seal(magic string, seq int, numbers ...int) []byte {
	block := make([]byte, api.Sector)
	at := copy(block, magic)
	b, _ := octets.Put(uint64(seq), seqWidth)
	at += copy(block[at:], b)
	for _, x := range numbers {
		b, _ := octets.Put(uint64(x), width)
		at += copy(block[at:], b)
	}
	b, _ = octets.Put(uint64(octets.Crc(0, block[:sumAt])), width)
	copy(block[sumAt:], b)
	return block
}

// unseal is what seems to stand in a block of 128 bytes, of which the numbers behind the ones it has are noughts.
// Whether it is one is for the caller to say: he makes it again, and holds the two against each other.
func unseal(b []byte) (seq int, numbers []int) {
	x, _ := octets.Get(b, numbersAt-seqWidth, seqWidth)
	for at := numbersAt; at < sumAt; at += width {
		n, _ := octets.Get(b, at, width)
		numbers = append(numbers, int(n))
	}
	return int(x), numbers // a seq that an int has not comes out below 0
}

func isSeq(seq int) bool {
	return seq >= 1 && seq <= api.MaxSeq
}

func isNumber(x int) bool {
	return x >= 0 && x <= mostNumber
}

// Head is the block that tells where the first transaction stands.
func Head(seq, at int) ([]byte, api.Errno) {
	if !isSeq(seq) || !isNumber(at) {
		return nil, api.ErrArg
	}
	return seal(headMagic, seq, at), api.OK
}

// ReadHead is what such a block tells.
func ReadHead(b []byte) (seq, at int, e api.Errno) {
	if len(b) != api.Sector {
		return 0, 0, api.ErrCode
	}
	seq, numbers := unseal(b)
	if again, e := Head(seq, numbers[0]); e != api.OK || !bytes.Equal(again, b) {
		return 0, 0, api.ErrCode
	}
	return seq, numbers[0], api.OK
}

// Desc is the block ahead of a transaction's blocks; the bits of turned say which of these begin with a J.
func Desc(seq int, targets []int, turned uint32) ([]byte, api.Errno) {
	few := len(targets) >= 1 && len(targets) <= api.MaxTx
	if !isSeq(seq) || !few || turned>>len(targets) != 0 {
		return nil, api.ErrArg
	}
	for _, x := range targets {
		if !isNumber(x) {
			return nil, api.ErrArg
		}
	}
	return seal(descMagic, seq, slices.Concat([]int{len(targets), int(turned)}, targets)...), api.OK
}

// ReadDesc is what such a block tells.
func ReadDesc(b []byte) (seq int, targets []int, turned uint32, e api.Errno) {
	if len(b) != api.Sector {
		return 0, nil, 0, api.ErrCode
	}
	seq, numbers := unseal(b)
	count, turned, rest := numbers[0], uint32(numbers[1]), numbers[2:]
	targets = rest[:min(count, api.MaxTx)]
	if again, e := Desc(seq, targets, turned); e != api.OK || !bytes.Equal(again, b) {
		return 0, nil, 0, api.ErrCode
	}
	return seq, targets, turned, api.OK
}

// Mark is the block behind a transaction's blocks: it has their sum.
func Mark(seq int, sum uint32) ([]byte, api.Errno) {
	if !isSeq(seq) {
		return nil, api.ErrArg
	}
	return seal(markMagic, seq, int(sum)), api.OK
}

// ReadMark is what such a block tells.
func ReadMark(b []byte) (seq int, sum uint32, e api.Errno) {
	if len(b) != api.Sector {
		return 0, 0, api.ErrCode
	}
	seq, numbers := unseal(b)
	sum = uint32(numbers[0])
	if again, e := Mark(seq, sum); e != api.OK || !bytes.Equal(again, b) {
		return 0, 0, api.ErrCode
	}
	return seq, sum, api.OK
}
