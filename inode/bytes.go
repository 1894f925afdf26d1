package inode

import "ashlar/api"

// ask is a file of which so many bytes are meant, from one on.
func (t *Table) ask(ino, off, count int) (api.Inode, api.Errno) {
	n, e := t.Get(ino)
	switch {
	case e != api.OK:
		return api.Inode{}, e
	case off < 0 || count < 0 || count > api.MaxIo:
		return api.Inode{}, api.ErrArg
	case n.Kind == api.KindFree:
		return api.Inode{}, api.ErrNone
	}
	return n, api.OK
}

// askRoom is a file that may have these bytes.
func (t *Table) askRoom(ino, off, count int) (api.Inode, api.Errno) {
	n, e := t.ask(ino, off, count)
	if e == api.OK && off > api.MaxFile-count { // off + count could leave the range of int
		return api.Inode{}, api.ErrFbig
	}
	return n, e
}

// Read is so many bytes of a file, from one on.
func (t *Table) Read(ino, off, n int) ([]byte, api.Errno) {
	file, e := t.ask(ino, off, n)
	if e != api.OK || off >= file.Size {
		return nil, e
	}
	end := min(off+n, file.Size)
	var out []byte
	for at := off; at < end; {
		b, e := t.block(&file, at/api.Sector)
		if e != api.OK {
			return nil, e
		}
		from := at % api.Sector
		b = b[from:min(from+end-at, api.Sector)]
		out = append(out, b...)
		at += len(b)
	}
	return out, api.OK
}

// block is one of a file's blocks: noughts, if it is a hole.
func (t *Table) block(n *api.Inode, block int) ([]byte, api.Errno) {
	steps := way(block)
	found, e := t.follow(n, steps)
	if e != api.OK {
		return nil, e
	}
	if len(found) < len(steps) {
		return make([]byte, api.Sector), api.OK
	}
	return t.journal.Read(found[len(found)-1])
}

// Need is how many blocks a file would take anew, if bytes of it were written.
func (t *Table) Need(ino, off, n int) (int, api.Errno) {
	file, e := t.askRoom(ino, off, n)
	if e != api.OK {
		return 0, e
	}
	return t.lacks(&file, off, n)
}

// Write lets a file have bytes, from one on.
func (t *Table) Write(ino, off int, b []byte) api.Errno {
	n, e := t.askRoom(ino, off, len(b))
	if e != api.OK || len(b) == 0 {
		return e
	}
	need, e := t.lacks(&n, off, len(b))
	if e != api.OK {
		return e
	}
	free, e := t.things.Free()
	switch {
	case e != api.OK:
		return e
	case need > free:
		return api.ErrNospc
	}
	return t.whole(func() api.Errno {
		if e := t.fill(&n, off, b); e != api.OK {
			return e
		}
		n.Size = max(n.Size, off+len(b))
		return t.Set(ino, n)
	})
}

// whole does something as a whole: where it is refused, the running transaction is as it was.
func (t *Table) whole(do func() api.Errno) api.Errno {
	was := t.journal.Saved()
	e := do()
	if e != api.OK {
		t.journal.Undo(was)
	}
	return e
}

// fill lets bytes stand in a file's blocks; those that are not there are taken.
func (t *Table) fill(n *api.Inode, off int, b []byte) api.Errno {
	for len(b) > 0 {
		block, e := t.reach(n, way(off/api.Sector))
		if e != api.OK {
			return e
		}
		had, e := t.journal.Read(block)
		if e != api.OK {
			return e
		}
		done := copy(had[off%api.Sector:], b)
		if e := t.journal.Write(block, had); e != api.OK {
			return e
		}
		off, b = off+done, b[done:]
	}
	return api.OK
}
