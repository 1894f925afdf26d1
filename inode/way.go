package inode

import (
	"ashlar/api"
	"ashlar/octets"
)

// entrySize is how many bytes a number of a block takes.
const entrySize = 4

// longest is how many steps a way has at most.
const longest = 3

// way leads to a file's block: its first step is a number of the file, each other one is an entry of the block to
// which the steps ahead of it lead.
func way(block int) []int {
	switch {
	case block < api.Direct:
		return []int{block}
	case block < api.Direct+api.PerBlock:
		return []int{single, block - api.Direct}
	}
	block -= api.Direct + api.PerBlock
	return []int{double, block / api.PerBlock, block % api.PerBlock}
}

// entry is the block that an entry of b names; 0 is none.
func entry(b []byte, step int) int {
	x, _ := octets.Get(b, entrySize*step, entrySize) // a block has all these bytes
	return int(x)
}

// setEntry lets an entry of b name a block.
func setEntry(b []byte, step, block int) {
	code, _ := octets.Put(uint64(block), entrySize) // a block's number has no more bytes
	copy(b[entrySize*step:], code)
}

// named is what the last one of the blocks above names, or the file itself, if there is none.
func (t *Table) named(n *api.Inode, above []int, step int) (int, api.Errno) {
	if len(above) == 0 {
		return *number(n, step), api.OK
	}
	b, e := t.journal.Read(above[len(above)-1])
	if e != api.OK {
		return 0, e
	}
	return entry(b, step), api.OK
}

// name lets the last one of the blocks above name a block, or the file itself, if there is none.
func (t *Table) name(n *api.Inode, above []int, step, block int) api.Errno {
	if len(above) == 0 {
		*number(n, step) = block
		return api.OK
	}
	last := above[len(above)-1]
	b, e := t.journal.Read(last)
	if e != api.OK {
		return e
	}
	setEntry(b, step, block)
	return t.journal.Write(last, b)
}

// follow tells the blocks along a way: fewer than it has steps, if it ends at a hole.
func (t *Table) follow(n *api.Inode, steps []int) ([]int, api.Errno) {
	var found []int
	for _, step := range steps {
		block, e := t.named(n, found, step)
		if e != api.OK {
			return nil, e
		}
		if block == 0 {
			break
		}
		found = append(found, block)
	}
	return found, api.OK
}

// reach is the block at a way's end: what is not there is taken, and what names it ahead of it.
func (t *Table) reach(n *api.Inode, steps []int) (int, api.Errno) {
	found, e := t.follow(n, steps)
	if e != api.OK {
		return 0, e
	}
	for _, step := range steps[len(found):] {
		block, e := t.take()
		if e != api.OK {
			return 0, e
		}
		if e := t.name(n, found, step, block); e != api.OK {
			return 0, e
		}
		found = append(found, block)
	}
	return found[len(found)-1], api.OK
}

// take is a block of noughts that was free.
func (t *Table) take() (int, api.Errno) {
	thing, e := t.things.Take()
	if e != api.OK {
		return 0, e
	}
	block := t.base + thing
	return block, t.journal.Write(block, make([]byte, api.Sector))
}

// give lets a block be free again.
func (t *Table) give(block int) api.Errno {
	return t.things.Give(block - t.base)
}

// lacks is how many blocks would be taken, if so many bytes were written from one on.
func (t *Table) lacks(n *api.Inode, off, count int) (int, api.Errno) {
	taken := map[[longest]int]struct{}{} // the ways to them: several lead through one that names others
	for at := off; at < off+count; at += api.Sector - at%api.Sector {
		steps := way(at / api.Sector)
		found, e := t.follow(n, steps)
		if e != api.OK {
			return 0, e
		}
		for end := len(found) + 1; end <= len(steps); end++ {
			key := [longest]int{-1, -1, -1} // no step is -1: a way is not its own beginning
			copy(key[:], steps[:end])
			taken[key] = struct{}{}
		}
	}
	return len(taken), api.OK
}
