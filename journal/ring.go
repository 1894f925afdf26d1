package journal

import (
	"slices"

	"ashlar/api"
	"ashlar/octets"
)

// A block of the ring that begins with a J is one of the journal's: no other one may look like that.
const journals = 'J'

// ring is how many blocks are behind the head.
func (j *Journal) ring() int {
	return j.length - 1
}

// place is the volume's block of the ring's that is so many behind at.
func (j *Journal) place(n int) int {
	return j.first + 1 + (j.at+n)%j.ring()
}

// room is how many blocks of the ring a transaction takes.
func room(blocks int) int {
	return 1 + blocks + 1
}

// goBeyond lets the next transaction stand behind one that has so many blocks.
func (j *Journal) goBeyond(blocks int) {
	n := room(blocks)
	j.seq++
	j.at = (j.at + n) % j.ring()
	j.used += n
}

// writeHead lets the volume surely have where the next transaction will stand.
func (j *Journal) writeHead() api.Errno {
	b, e := Head(j.seq, j.at)
	if e != api.OK {
		return e
	}
	return j.writeSurely(j.first, b)
}

// writeSurely writes a block, and flushes the volume.
func (j *Journal) writeSurely(block int, b []byte) api.Errno {
	v := j.cache.Volume()
	if e := v.Write(block, b); e != api.OK {
		return e
	}
	return v.Flush()
}

// writeAhead lets the ring surely have a transaction. Its mark comes only when the volume has all the other blocks.
func (j *Journal) writeAhead(writes []api.Write) api.Errno {
	blocks, e := j.standing(writes)
	if e != api.OK {
		return e
	}
	v, mark := j.cache.Volume(), len(blocks)-1
	for i, b := range blocks[:mark] {
		if e := v.Write(j.place(i), b); e != api.OK {
			return e
		}
	}
	if e := v.Flush(); e != api.OK {
		return e
	}
	return j.writeSurely(j.place(mark), blocks[mark])
}

// standing is a transaction as it stands in the ring: its desc, its blocks, its mark.
func (j *Journal) standing(writes []api.Write) ([][]byte, api.Errno) {
	blocks := [][]byte{nil} // the desc is known when the others are
	var targets []int
	var turned uint32
	for i, w := range writes {
		b := slices.Clone(w.Data)
		if b[0] == journals {
			b[0] = 0
			turned |= 1 << i
		}
		targets = append(targets, w.Block)
		blocks = append(blocks, b)
	}
	desc, e := Desc(j.seq, targets, turned)
	if e != api.OK {
		return nil, e
	}
	blocks[0] = desc
	mark, e := Mark(j.seq, octets.Crc(0, slices.Concat(blocks...)))
	return append(blocks, mark), e
}

// redo lets the cache have all whole transactions that stand in the ring; it tells how many these are.
func (j *Journal) redo() (int, api.Errno) {
	count := 0
	for j.used < j.ring() {
		writes, e := j.stored()
		if e != api.OK || len(writes) == 0 {
			return count, e
		}
		for _, w := range writes {
			if e := j.cache.Put(w.Block, w.Data); e != api.OK {
				return count, e
			}
		}
		j.goBeyond(len(writes))
		count++
	}
	return count, api.OK
}

// stored is the transaction that stands at at: no writes, if it is not whole.
func (j *Journal) stored() ([]api.Write, api.Errno) {
	desc, e := j.readRing(0)
	if e != api.OK {
		return nil, e
	}
	seq, targets, turned, e := ReadDesc(desc)
	if e != api.OK || seq != j.seq || !j.mayStand(targets) {
		return nil, api.OK
	}
	sum := octets.Crc(0, desc)
	var writes []api.Write
	for i, target := range targets {
		b, e := j.readRing(1 + i)
		if e != api.OK {
			return nil, e
		}
		sum = octets.Crc(sum, b)
		if turned>>i&1 == 1 {
			b[0] = journals
		}
		writes = append(writes, api.Write{Block: target, Data: b})
	}
	mark, e := j.readRing(1 + len(targets))
	if e != api.OK {
		return nil, e
	}
	if seq, told, e := ReadMark(mark); e != api.OK || seq != j.seq || told != sum {
		return nil, api.OK
	}
	return writes, api.OK
}

// mayStand tells whether a transaction may have these targets: there is room for it, and they are the journal's own.
func (j *Journal) mayStand(targets []int) bool {
	for _, x := range targets {
		if !j.owns(x) {
			return false
		}
	}
	return j.used+room(len(targets)) <= j.ring()
}

func (j *Journal) readRing(n int) ([]byte, api.Errno) {
	return j.cache.Volume().Read(j.place(n))
}
