// Package octets has numbers, sums and bits in bytes. See shared/doc.
package octets

import (
	"bytes"
	"math/bits"

	"ashlar/api"
)

// The sums' polynomial is 1EDC6F41, its bits turned round: these are the rests of a byte's two halves,
// since a table of all 256 bytes would be too long.
var (
	lowRests = [16]uint32{
		0x00000000, 0xf26b8303, 0xe13b70f7, 0x1350f3f4, 0xc79a971f, 0x35f1141c, 0x26a1e7e8, 0xd4ca64eb,
		0x8ad958cf, 0x78b2dbcc, 0x6be22838, 0x9989ab3b, 0x4d43cfd0, 0xbf284cd3, 0xac78bf27, 0x5e133c24,
	}
	highRests = [16]uint32{
		0x00000000, 0x105ec76f, 0x20bd8ede, 0x30e349b1, 0x417b1dbc, 0x5125dad3, 0x61c69362, 0x7198540d,
		0x82f63b78, 0x92a8fc17, 0xa24bb5a6, 0xb21572c9, 0xc38d26c4, 0xd3d3e1ab, 0xe330a81a, 0xf36e6f75,
	}
)

// Put is a number in so many bytes, the lowest one first.
func Put(x uint64, n int) ([]byte, api.Errno) {
	if !isWidth(n) || x>>(8*n) != 0 {
		return nil, api.ErrArg
	}
	out := make([]byte, n)
	for i := range n {
		out[i] = byte(x >> (8 * i))
	}
	return out, api.OK
}

// Get is the number that stands in so many bytes.
func Get(b []byte, at, n int) (uint64, api.Errno) {
	// at + n could leave the range of int; len(b) - at can't, as neither is below 0.
	if !isWidth(n) || at < 0 || len(b)-at < n {
		return 0, api.ErrArg
	}
	var x uint64
	for i := range n {
		x |= uint64(b[at+i]) << (8 * i)
	}
	return x, api.OK
}

func isWidth(n int) bool {
	return n >= 1 && n <= 8
}

// Crc goes on with a sum over bytes.
func Crc(seed uint32, b []byte) uint32 {
	sum := ^seed
	for _, x := range b {
		x ^= byte(sum)
		sum = sum>>8 ^ lowRests[x&15] ^ highRests[x>>4]
	}
	return ^sum
}

// Xor puts two texts of one length together.
func Xor(a, b []byte) ([]byte, api.Errno) {
	if len(a) != len(b) {
		return nil, api.ErrArg
	}
	out := make([]byte, len(a))
	for i := range len(a) {
		out[i] = a[i] ^ b[i]
	}
	return out, api.OK
}

// Has tells whether a bit is set.
func Has(b []byte, i int) bool {
	return there(b, i) && b[i/8]>>(i%8)&1 == 1
}

// there tells whether b has a bit i.
func there(b []byte, i int) bool {
	return i >= 0 && i/8 < len(b)
}

// With is bits of which one is set, or not.
func With(b []byte, i int, on bool) ([]byte, api.Errno) {
	if !there(b, i) {
		return nil, api.ErrArg
	}
	out := bytes.Clone(b)
	if on {
		out[i/8] |= 1 << (i % 8)
	} else {
		out[i/8] &^= 1 << (i % 8)
	}
	return out, api.OK
}

// Free is the first bit from one on, of so many, that is not set.
func Free(b []byte, from, n int) (int, bool) {
	first := max(from, 0) / 8
	bit, found := 0, false
search:
	for k := range len(b) - first {
		for s := range 8 {
			i := 8*(first+k) + s
			if i >= n {
				break search
			}
			if i >= from && !Has(b, i) {
				bit, found = i, true
				break search
			}
		}
	}
	return bit, found
}

// Count is how many of the first bits are set.
func Count(b []byte, n int) int {
	n = min(n, 8*len(b)) // below 0 there are none: both ranges are empty then
	count := 0
	for k := range n / 8 {
		count += bits.OnesCount8(b[k])
	}
	for s := range n % 8 {
		if Has(b, n-1-s) {
			count++
		}
	}
	return count
}
