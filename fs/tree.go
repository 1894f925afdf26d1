package fs

import (
	"ashlar/api"
	"ashlar/dir"
	"ashlar/path"
)

// none is what stands at a spot where nothing does: no name names the root.
const none = root

// A spot is a path's last name, in the directory to which the names ahead lead.
type spot struct {
	dir  int
	name string
	ino  int // what stands there
}

// lead is what names lead to, from the root on.
func (f *FS) lead(names []string) (int, api.Errno) {
	ino := root
	for _, name := range names {
		next, e := dir.Find(f.table, ino, name)
		if e != api.OK {
			return 0, e
		}
		ino = next
	}
	return ino, api.OK
}

// spot is a path's; the root has none: ofRoot is what is told of it.
func (f *FS) spot(names []string, ofRoot api.Errno) (spot, api.Errno) {
	if len(names) == 0 {
		return spot{}, ofRoot
	}
	last := len(names) - 1
	above, e := f.lead(names[:last])
	if e != api.OK {
		return spot{}, e
	}
	ino, e := dir.Find(f.table, above, names[last])
	switch e {
	case api.OK:
		return spot{dir: above, name: names[last], ino: ino}, api.OK
	case api.ErrNoent:
		return spot{dir: above, name: names[last], ino: none}, api.OK
	}
	return spot{}, e
}

// taken is a spot at which something stands, and that.
func (f *FS) taken(names []string, ofRoot api.Errno) (spot, api.Inode, api.Errno) {
	s, e := f.spot(names, ofRoot)
	switch {
	case e != api.OK:
		return spot{}, api.Inode{}, e
	case s.ino == none:
		return spot{}, api.Inode{}, api.ErrNoent
	}
	n, e := f.table.Get(s.ino)
	return s, n, e
}

// vacant is a spot at which nothing stands.
func (f *FS) vacant(names []string) (spot, api.Errno) {
	s, e := f.spot(names, api.ErrExist)
	switch {
	case e != api.OK:
		return spot{}, e
	case s.ino != none:
		return spot{}, api.ErrExist
	}
	return s, api.OK
}

// create lets something new stand at a spot; it tells its number.
func (f *FS) create(s spot, kind int) (int, api.Errno) {
	ino, e := f.table.Free()
	if e != api.OK {
		return 0, e
	}
	if e := f.table.Set(ino, api.Inode{Kind: kind, Links: 1}); e != api.OK {
		return 0, e
	}
	return ino, dir.Add(f.table, s.dir, api.Entry{Ino: ino, Name: s.name})
}

// release lets a file have a link less.
func (f *FS) release(ino int, n api.Inode) api.Errno {
	n.Links--
	if e := f.table.Set(ino, n); e != api.OK {
		return e
	}
	return f.settle(ino)
}

// settle frees a file that has no links, unless it is open.
func (f *FS) settle(ino int) api.Errno {
	n, e := f.table.Get(ino)
	if e != api.OK || n.Kind == api.KindFree || n.Links > 0 || f.isOpen(ino) {
		return e
	}
	if e := f.table.Cut(ino, 0); e != api.OK {
		return e
	}
	return f.table.Set(ino, api.Inode{})
}

// empty is OK of a directory without names: ErrNotempty, if it has some, ErrNotdir of a file.
func (f *FS) empty(ino int) api.Errno {
	list, e := dir.List(f.table, ino)
	if e == api.OK && len(list) > 0 {
		return api.ErrNotempty
	}
	return e
}

// stand is what a path leads to.
func (f *FS) stand(p string) (int, api.Errno) {
	if f.isNone() {
		return 0, api.ErrClosed
	}
	names, e := path.Split(p)
	if e != api.OK {
		return 0, e
	}
	ino, e := f.lead(names)
	return ino, told(e)
}

// Stat tells of what a path leads to.
func (f *FS) Stat(p string) (api.Stat, api.Errno) {
	ino, e := f.stand(p)
	if e != api.OK {
		return api.Stat{}, e
	}
	n, e := f.table.Get(ino)
	if e != api.OK {
		return api.Stat{}, told(e)
	}
	return api.Stat{Ino: ino, Kind: n.Kind, Links: n.Links, Size: n.Size}, api.OK
}

// List is the names in a directory.
func (f *FS) List(p string) ([]string, api.Errno) {
	ino, e := f.stand(p)
	if e != api.OK {
		return nil, e
	}
	entries, e := dir.List(f.table, ino)
	if e != api.OK {
		return nil, told(e)
	}
	var names []string
	for _, x := range entries {
		names = append(names, x.Name)
	}
	return names, api.OK
}
