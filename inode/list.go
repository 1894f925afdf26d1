package inode

import "ashlar/api"

// A list is blocks, each of them once.
type list struct {
	blocks []int
	seen   map[int]struct{}
}

// Blocks are all blocks that a file takes, in the order in which they are named.
func (t *Table) Blocks(ino int) ([]int, api.Errno) {
	n, e := t.Get(ino)
	if e != api.OK {
		return nil, e
	}
	l := &list{seen: map[int]struct{}{}}
	for step := range numbers {
		if e := t.gather(l, *number(&n, step), depth(step)); e != api.OK {
			return nil, e
		}
	}
	return l.blocks, api.OK
}

// gather adds a block to the list, and behind it what it names.
func (t *Table) gather(l *list, block, depth int) api.Errno {
	if block == 0 {
		return api.OK
	}
	if _, has := l.seen[block]; !has {
		l.seen[block] = struct{}{}
		l.blocks = append(l.blocks, block)
	}
	if depth == 0 {
		return api.OK
	}
	b, e := t.journal.Read(block)
	if e != api.OK {
		return e
	}
	for step := range api.PerBlock {
		if e := t.gather(l, entry(b, step), depth-1); e != api.OK {
			return e
		}
	}
	return api.OK
}
