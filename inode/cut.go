package inode

import "ashlar/api"

// depth is how many blocks that name others lie on a way with that first step.
func depth(step int) int {
	return max(0, step-single+1)
}

// span is how many blocks of a file lie below a number, where so many blocks that name others are between.
func span(depth int) int {
	blocks := 1
	for range depth {
		blocks *= api.PerBlock
	}
	return blocks
}

// Cut lets a file end at a size: what is beyond goes; what is new is noughts.
func (t *Table) Cut(ino, size int) api.Errno {
	n, e := t.askRoom(ino, size, 0)
	if e != api.OK {
		return e
	}
	return t.whole(func() api.Errno {
		if e := t.prune(&n, (size+api.Sector-1)/api.Sector); e != api.OK {
			return e
		}
		if size < n.Size {
			if e := t.blank(&n, size); e != api.OK {
				return e
			}
		}
		n.Size = size
		return t.Set(ino, n)
	})
}

// prune gives back all blocks of a file but the first ones.
func (t *Table) prune(n *api.Inode, keep int) api.Errno {
	for step := range numbers {
		x := number(n, step)
		left, e := t.pruned(*x, depth(step), keep)
		if e != api.OK {
			return e
		}
		*x = left
		keep -= span(depth(step))
	}
	return api.OK
}

// pruned gives back what lies below a number but the first blocks of it, and what names nothing any more; it tells what
// the number is then.
func (t *Table) pruned(block, depth, keep int) (int, api.Errno) {
	switch {
	case block == 0 || keep >= span(depth):
		return block, api.OK
	case depth == 0:
		return 0, t.give(block)
	}
	b, e := t.journal.Read(block)
	if e != api.OK {
		return 0, e
	}
	names, changed := false, false
	for step := range api.PerBlock {
		was := entry(b, step)
		left, e := t.pruned(was, depth-1, keep-step*span(depth-1))
		if e != api.OK {
			return 0, e
		}
		setEntry(b, step, left)
		names = names || left != 0
		changed = changed || left != was
	}
	switch {
	case !names:
		return 0, t.give(block)
	case changed:
		return block, t.journal.Write(block, b)
	}
	return block, api.OK
}

// blank lets what lies beyond a size be noughts in the block around it.
func (t *Table) blank(n *api.Inode, size int) api.Errno {
	steps := way(size / api.Sector)
	found, e := t.follow(n, steps)
	if e != api.OK || len(found) < len(steps) {
		return e
	}
	block := found[len(found)-1]
	b, e := t.journal.Read(block)
	if e != api.OK {
		return e
	}
	clear(b[size%api.Sector:])
	return t.journal.Write(block, b)
}
