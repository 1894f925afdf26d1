package fs

import (
	"bytes"

	"ashlar/alloc"
	"ashlar/api"
	"ashlar/cache"
	"ashlar/inode"
	"ashlar/journal"
	"ashlar/octets"
	"ashlar/raid"
)

// The label's fields: where each begins.
const (
	labelMagic = "ASFS"
	width      = 4 // of each number, and of the sum
	sizeAt     = len(labelMagic)
	inodesAt   = sizeAt + width
	ringAt     = inodesAt + width
	sumAt      = api.Sector - width
)

const (
	labelBlock = 0
	bitsBlock  = labelBlock + 1 // the first one of the bits
)

// A layout is how the blocks of a volume are parted.
type layout struct {
	size, inodes, ring int
}

// mayBe looks at the numbers first: what the others are reckoned from must not be too great.
func (l layout) mayBe() bool {
	return l.inodes >= 2 && l.inodes <= api.MaxInodes &&
		l.ring >= api.MinRing && l.ring <= l.size &&
		l.things() >= 1
}

// table is the first block of the table.
func (l layout) table() int {
	return bitsBlock + alloc.Blocks(min(l.size-l.ring, api.MaxThings))
}

// base is the first block of the files'.
func (l layout) base() int {
	return l.table() + (l.inodes+1)/2
}

// journal is the journal's first block.
func (l layout) journal() int {
	return l.size - l.ring
}

// things is how many blocks the files may take.
func (l layout) things() int {
	return min(l.journal()-l.base(), api.MaxThings)
}

// label is the block that tells the layout: the errors of Put are left out, since each number fits.
func (l layout) label() []byte {
	b := make([]byte, api.Sector)
	put := func(at, x int) {
		code, _ := octets.Put(uint64(x), width)
		copy(b[at:], code)
	}
	copy(b, labelMagic)
	put(sizeAt, l.size)
	put(inodesAt, l.inodes)
	put(ringAt, l.ring)
	put(sumAt, int(octets.Crc(0, b[:sumAt])))
	return b
}

// readLabel is the layout that a label tells; false: it is none of a volume of this size.
func readLabel(b []byte, size int) (layout, bool) {
	inodes, _ := octets.Get(b, inodesAt, width) // a block has all these bytes
	ring, _ := octets.Get(b, ringAt, width)
	l := layout{size: size, inodes: int(inodes), ring: int(ring)}
	return l, l.mayBe() && bytes.Equal(b, l.label())
}

// Mkfs makes an empty file system.
func Mkfs(v *raid.Volume, inodes, ring int) api.Errno {
	l := layout{size: v.Size(), inodes: inodes, ring: ring} // a nil volume has no blocks
	if !l.mayBe() {
		return api.ErrInval
	}
	return told(l.write(v))
}

// write takes the label away first, and lets it stand again at the end: what is half made has none.
func (l layout) write(v *raid.Volume) api.Errno {
	if e := writeSurely(v, labelBlock, make([]byte, api.Sector)); e != api.OK {
		return e
	}
	for block := bitsBlock; block < l.base(); block++ {
		b, e := l.fresh(block)
		if e != api.OK {
			return e
		}
		if e := v.Write(block, b); e != api.OK {
			return e
		}
	}
	c, e := cache.New(v, 1)
	if e != api.OK {
		return e
	}
	if e := journal.Format(c, l.journal(), l.ring); e != api.OK {
		return e
	}
	return writeSurely(v, labelBlock, l.label())
}

// fresh is a block of the bits, or of the table, as it is at first: noughts, but for the root.
func (l layout) fresh(block int) ([]byte, api.Errno) {
	b := make([]byte, api.Sector)
	if block != l.table() {
		return b, api.OK
	}
	code, e := inode.Encode(api.Inode{Kind: api.KindDir, Links: 1})
	copy(b, code) // the root is the table's first one
	return b, e
}

func writeSurely(v *raid.Volume, block int, b []byte) api.Errno {
	if e := v.Write(block, b); e != api.OK {
		return e
	}
	return v.Flush()
}
