package fs

import (
	"ashlar/api"
	"ashlar/dir"
	"ashlar/path"
)

// change does something with a path's names as a whole.
func (f *FS) change(p string, do func(names []string) api.Errno) api.Errno {
	return f.whole(func() api.Errno {
		names, e := path.Split(p)
		if e != api.OK {
			return e
		}
		return do(names)
	})
}

// changeTwo does something with the names of two paths as a whole.
func (f *FS) changeTwo(from, to string, do func(from, to []string) api.Errno) api.Errno {
	return f.change(from, func(ahead []string) api.Errno {
		behind, e := path.Split(to)
		if e != api.OK {
			return e
		}
		return do(ahead, behind)
	})
}

// Unlink takes a name from a file.
func (f *FS) Unlink(p string) api.Errno {
	return f.change(p, f.unlink)
}

func (f *FS) unlink(names []string) api.Errno {
	s, n, e := f.taken(names, api.ErrIsdir)
	switch {
	case e != api.OK:
		return e
	case n.Kind == api.KindDir:
		return api.ErrIsdir
	}
	return f.takeAway(s, n)
}

// takeAway takes a name, and with it a link, from what stands at a spot.
func (f *FS) takeAway(s spot, n api.Inode) api.Errno {
	if e := dir.Drop(f.table, s.dir, s.name); e != api.OK {
		return e
	}
	return f.release(s.ino, n)
}

// Mkdir makes a directory.
func (f *FS) Mkdir(p string) api.Errno {
	return f.change(p, f.mkdir)
}

func (f *FS) mkdir(names []string) api.Errno {
	s, e := f.vacant(names)
	if e != api.OK {
		return e
	}
	_, e = f.create(s, api.KindDir)
	return e
}

// Rmdir takes an empty directory away.
func (f *FS) Rmdir(p string) api.Errno {
	return f.change(p, f.rmdir)
}

func (f *FS) rmdir(names []string) api.Errno {
	s, n, e := f.taken(names, api.ErrInval)
	if e != api.OK {
		return e
	}
	if e := f.empty(s.ino); e != api.OK {
		return e
	}
	return f.takeAway(s, n)
}

// Link gives a file a name more.
func (f *FS) Link(from, to string) api.Errno {
	return f.changeTwo(from, to, f.link)
}

func (f *FS) link(from, to []string) api.Errno {
	s, n, e := f.taken(from, api.ErrIsdir)
	switch {
	case e != api.OK:
		return e
	case n.Kind == api.KindDir:
		return api.ErrIsdir
	}
	d, e := f.vacant(to)
	switch {
	case e != api.OK:
		return e
	case n.Links == api.MaxLinks:
		return api.ErrMlink
	}
	if e := dir.Add(f.table, d.dir, api.Entry{Ino: s.ino, Name: d.name}); e != api.OK {
		return e
	}
	n.Links++
	return f.table.Set(s.ino, n)
}

// Rename gives what has a name another one, in the place of what has that.
func (f *FS) Rename(from, to string) api.Errno {
	return f.changeTwo(from, to, f.rename)
}

func (f *FS) rename(from, to []string) api.Errno {
	if len(to) == 0 {
		return api.ErrInval
	}
	s, n, e := f.taken(from, api.ErrInval)
	switch {
	case e != api.OK:
		return e
	case n.Kind == api.KindDir && len(to) > len(from) && path.Below(from, to):
		return api.ErrInval
	}
	d, e := f.spot(to, api.ErrInval)
	switch {
	case e != api.OK:
		return e
	case d.ino == s.ino:
		return api.OK
	case d.ino != none:
		return f.replace(s, n, d)
	}
	if e := dir.Drop(f.table, s.dir, s.name); e != api.OK {
		return e
	}
	return dir.Add(f.table, d.dir, api.Entry{Ino: s.ino, Name: d.name})
}

// replace lets what stands at a spot stand at another one, in the place of what stands there.
func (f *FS) replace(s spot, n api.Inode, d spot) api.Errno {
	old, e := f.table.Get(d.ino)
	switch {
	case e != api.OK:
		return e
	case old.Kind == api.KindDir && n.Kind != api.KindDir:
		return api.ErrIsdir
	case old.Kind != api.KindDir && n.Kind == api.KindDir:
		return api.ErrNotdir
	}
	if old.Kind == api.KindDir {
		if e := f.empty(d.ino); e != api.OK {
			return e
		}
	}
	if e := dir.Drop(f.table, s.dir, s.name); e != api.OK {
		return e
	}
	if e := dir.Point(f.table, d.dir, api.Entry{Ino: s.ino, Name: d.name}); e != api.OK {
		return e
	}
	return f.release(d.ino, old)
}
