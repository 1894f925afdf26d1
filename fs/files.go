package fs

import (
	"ashlar/api"
	"ashlar/path"
)

// A file is one that is open.
type file struct {
	ino   int
	flags int
	at    int // the place from which it goes on
}

// isOpen tells whether a file is.
func (f *FS) isOpen(ino int) bool {
	for fd := range api.MaxFds {
		if x := f.files[fd]; x != nil && x.ino == ino {
			return true
		}
	}
	return false
}

// closed is the least descriptor that is free.
func (f *FS) closed() (int, api.Errno) {
	for fd := range api.MaxFds {
		if f.files[fd] == nil {
			return fd, api.OK
		}
	}
	return 0, api.ErrMfile
}

// opened is what a descriptor describes: it has to have these flags.
func (f *FS) opened(fd, flags int) (*file, api.Errno) {
	switch {
	case f.isNone():
		return nil, api.ErrClosed
	case fd < 0 || fd >= api.MaxFds || f.files[fd] == nil || f.files[fd].flags&flags != flags:
		return nil, api.ErrBadf
	}
	return f.files[fd], api.OK
}

// mayOpen tells whether flags go together.
func mayOpen(flags int) bool {
	const all = api.FlagRead | api.FlagWrite | api.FlagCreate | api.FlagTrunc | api.FlagExcl
	has := func(flag int) bool { return flags&flag != 0 }
	return flags >= 0 && flags <= all &&
		(has(api.FlagRead) || has(api.FlagWrite)) &&
		(has(api.FlagWrite) || !has(api.FlagTrunc)) &&
		(has(api.FlagCreate) || !has(api.FlagExcl))
}

// Open opens a file.
func (f *FS) Open(p string, flags int) (int, api.Errno) {
	fd, ino := 0, 0
	e := f.whole(func() api.Errno {
		if !mayOpen(flags) {
			return api.ErrInval
		}
		names, e := path.Split(p)
		if e != api.OK {
			return e
		}
		if fd, e = f.closed(); e != api.OK {
			return e
		}
		ino, e = f.enter(names, flags)
		return e
	})
	if e != api.OK {
		return 0, e
	}
	f.files[fd] = &file{ino: ino, flags: flags}
	return fd, api.OK
}

// enter is the number of the file to which names lead; it is made, or cut, as the flags ask for.
func (f *FS) enter(names []string, flags int) (int, api.Errno) {
	ofRoot := api.ErrIsdir
	if flags&api.FlagExcl != 0 {
		ofRoot = api.ErrExist
	}
	s, e := f.spot(names, ofRoot)
	switch {
	case e != api.OK:
		return 0, e
	case s.ino != none:
		return s.ino, f.enterOld(s.ino, flags)
	case flags&api.FlagCreate == 0:
		return 0, api.ErrNoent
	}
	return f.create(s, api.KindFile)
}

// enterOld lets a file that there is be as the flags ask for.
func (f *FS) enterOld(ino, flags int) api.Errno {
	if flags&api.FlagExcl != 0 {
		return api.ErrExist
	}
	n, e := f.table.Get(ino)
	switch {
	case e != api.OK:
		return e
	case n.Kind == api.KindDir:
		return api.ErrIsdir
	case flags&api.FlagTrunc != 0:
		return f.table.Cut(ino, 0)
	}
	return api.OK
}

// Close closes a file.
func (f *FS) Close(fd int) api.Errno {
	x, e := f.opened(fd, 0)
	if e != api.OK {
		return e
	}
	f.files[fd] = nil
	e = f.whole(func() api.Errno {
		if f.isOpen(x.ino) {
			return api.OK
		}
		return f.settle(x.ino)
	})
	if e != api.OK {
		f.files[fd] = x
	}
	return e
}

// Read reads on in a file.
func (f *FS) Read(fd, n int) ([]byte, api.Errno) {
	x, e := f.opened(fd, api.FlagRead)
	switch {
	case e != api.OK:
		return nil, e
	case n < 0 || n > api.MaxIo:
		return nil, api.ErrInval
	}
	b, e := f.table.Read(x.ino, x.at, n)
	if e != api.OK {
		return nil, told(e)
	}
	x.at += len(b)
	return b, api.OK
}

// Write writes on in a file.
func (f *FS) Write(fd int, b []byte) (int, api.Errno) {
	x, e := f.opened(fd, api.FlagWrite)
	switch {
	case e != api.OK:
		return 0, e
	case len(b) > api.MaxIo:
		return 0, api.ErrInval
	}
	if e := f.whole(func() api.Errno { return f.table.Write(x.ino, x.at, b) }); e != api.OK {
		return 0, e
	}
	x.at += len(b)
	return len(b), api.OK
}

// Seek goes to a place in a file.
func (f *FS) Seek(fd, off, whence int) (int, api.Errno) {
	x, e := f.opened(fd, 0)
	switch {
	case e != api.OK:
		return 0, e
	case off < -api.MaxFile || off > api.MaxFile:
		return 0, api.ErrInval
	}
	from, e := f.origin(x, whence)
	switch {
	case e != api.OK:
		return 0, e
	case from+off < 0 || from+off > api.MaxFile:
		return 0, api.ErrInval
	}
	x.at = from + off
	return x.at, api.OK
}

// origin is the place from which a Seek counts.
func (f *FS) origin(x *file, whence int) (int, api.Errno) {
	switch whence {
	case 0:
		return 0, api.OK
	case 1:
		return x.at, api.OK
	case 2:
		n, e := f.table.Get(x.ino)
		return n.Size, told(e)
	}
	return 0, api.ErrInval
}

// Truncate lets a file end at a size.
func (f *FS) Truncate(fd, size int) api.Errno {
	x, e := f.opened(fd, api.FlagWrite)
	switch {
	case e != api.OK:
		return e
	case size < 0:
		return api.ErrInval
	}
	return f.whole(func() api.Errno { return f.table.Cut(x.ino, size) })
}

// Fsync lets a file last.
func (f *FS) Fsync(fd int) api.Errno {
	if _, e := f.opened(fd, 0); e != api.OK {
		return e
	}
	return f.Sync()
}
