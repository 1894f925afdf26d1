package world

import (
	"maps"
	"slices"
	"strings"

	"ashlar/api"
)

// A node is a file or a directory.
type node struct {
	kind, links, size int
	blocks            map[int]string // a file's, by their numbers
	places            []api.Entry    // a directory's: the number 0 is a free one
}

// A handle is a file that is open.
type handle struct{ ino, flags, at int }

// A plain world is a tree in memory, which does the steps of the file system.
type plain struct {
	things int
	nodes  []*node
	open   map[int]handle
}

// newPlain reckons anew how many blocks the files have.
func newPlain(c api.Conf) *plain {
	size := c.Stripes * (c.Members - 1)
	base := 1 + (min(size-c.Ring, 4096)+1023)/1024 + (c.Inodes+1)/2
	p := &plain{things: min(size-c.Ring-base, 4096), nodes: make([]*node, c.Inodes), open: map[int]handle{}}
	p.nodes[0] = &node{kind: api.KindDir, links: 1}
	return p
}

func (p *plain) clone() *plain {
	q := &plain{things: p.things, open: maps.Clone(p.open)}
	for _, n := range p.nodes {
		if n != nil {
			c := *n
			c.blocks, c.places = maps.Clone(n.blocks), slices.Clone(n.places)
			n = &c
		}
		q.nodes = append(q.nodes, n)
	}
	return q
}

// crashed is what a Mount finds: nothing is open, what has no links is gone.
func (p *plain) crashed() *plain {
	q := p.clone()
	clear(q.open)
	for ino, n := range q.nodes {
		if n != nil && n.links == 0 {
			q.nodes[ino] = nil
		}
	}
	return q
}

// do is the answer of a step of the file system.
func (p *plain) do(s api.Step) api.Reply {
	switch s.Kind {
	case api.StepOpen:
		return number(p.openFile(s.Path, s.N))
	case api.StepClose:
		return told(p.closeFile(s.Fd))
	case api.StepRead:
		return text(p.read(s.Fd, s.N))
	case api.StepWrite:
		return number(p.write(s.Fd, s.Data))
	case api.StepSeek:
		return number(p.seek(s.Fd, s.N, s.At))
	case api.StepTruncate:
		return told(p.truncate(s.Fd, s.N))
	case api.StepUnlink:
		return told(p.unlink(s.Path))
	case api.StepMkdir:
		return told(p.mkdir(s.Path))
	case api.StepRmdir:
		return told(p.rmdir(s.Path))
	case api.StepRename:
		return told(p.rename(s.Path, s.To))
	case api.StepLink:
		return told(p.link(s.Path, s.To))
	case api.StepStat:
		return stat(p.stat(s.Path))
	case api.StepList:
		return list(p.list(s.Path))
	case api.StepFsync:
		_, e := p.handle(s.Fd, 0)
		return told(e)
	case api.StepSync:
		return told(api.OK)
	}
	return told(api.ErrArg)
}

// takes is how many blocks a set of a file's blocks takes, with those that name them.
func takes(blocks map[int]string) int {
	naming := map[int]struct{}{}
	for k := range blocks {
		if k >= 8 && k < 40 {
			naming[-1] = struct{}{}
		}
		if k >= 40 {
			naming[-2] = struct{}{}
			naming[(k-40)/32] = struct{}{}
		}
	}
	return len(blocks) + len(naming)
}

func (n *node) takes() int {
	all := maps.Clone(n.blocks)
	if n.kind == api.KindDir {
		all = map[int]string{}
	}
	for i := range n.places {
		all[i/4] = ""
	}
	return takes(all)
}

func (p *plain) free() int {
	free := p.things
	for _, n := range p.nodes {
		if n != nil {
			free -= n.takes()
		}
	}
	return free
}

func badName(s string) api.Errno {
	if s == "." || s == ".." || strings.Contains(s, "\x00") {
		return api.ErrInval
	}
	if len(s) > 27 {
		return api.ErrName
	}
	return api.OK
}

func split(p string) ([]string, api.Errno) {
	if p == "" || p[0] != '/' {
		return nil, api.ErrInval
	}
	if len(p) > 255 {
		return nil, api.ErrName
	}
	var names []string
	for _, s := range strings.Split(p, "/") {
		if s == "" {
			continue
		}
		if e := badName(s); e != api.OK {
			return nil, e
		}
		if len(names) == 16 {
			return nil, api.ErrName
		}
		names = append(names, s)
	}
	return names, api.OK
}

func (n *node) at(name string) int {
	return slices.IndexFunc(n.places, func(x api.Entry) bool { return x.Ino != 0 && x.Name == name })
}

func (n *node) isEmpty() bool { return len(n.names()) == 0 }

func (n *node) names() []string {
	var l []string
	for _, x := range n.places {
		if x.Ino != 0 {
			l = append(l, x.Name)
		}
	}
	slices.Sort(l)
	return l
}

func (p *plain) walk(names []string) (int, api.Errno) {
	ino := 0
	for _, s := range names {
		n := p.nodes[ino]
		if n.kind != api.KindDir {
			return 0, api.ErrNotdir
		}
		i := n.at(s)
		if i < 0 {
			return 0, api.ErrNoent
		}
		ino = n.places[i].Ino
	}
	return ino, api.OK
}

// A corner is a directory, a name, and what stands there: 0 is nothing.
type corner struct {
	dir  *node
	name string
	ino  int
}

func (p *plain) corner(names []string) (corner, api.Errno) {
	k := len(names) - 1
	d, e := p.walk(names[:k])
	if e != api.OK {
		return corner{}, e
	}
	c := corner{dir: p.nodes[d], name: names[k]}
	if c.dir.kind != api.KindDir {
		return corner{}, api.ErrNotdir
	}
	if i := c.dir.at(c.name); i >= 0 {
		c.ino = c.dir.places[i].Ino
	}
	return c, api.OK
}

// cornerOf is a path's; it is told what is answered of the root.
func (p *plain) cornerOf(path string, ofRoot api.Errno) (corner, api.Errno) {
	names, e := split(path)
	switch {
	case e != api.OK:
		return corner{}, e
	case len(names) == 0:
		return corner{}, ofRoot
	}
	return p.corner(names)
}

func (c corner) drop() { c.dir.places[c.dir.at(c.name)] = api.Entry{} }

func (p *plain) add(d *node, x api.Entry) api.Errno {
	if i := slices.Index(d.places, api.Entry{}); i >= 0 {
		d.places[i] = x
		return api.OK
	}
	if len(d.places) == 136192/32 {
		return api.ErrFbig
	}
	more := *d
	more.places = append(slices.Clone(d.places), x)
	if more.takes()-d.takes() > p.free() {
		return api.ErrNospc
	}
	d.places, d.size = more.places, d.size+32
	return api.OK
}

func (p *plain) create(c corner, kind int) (int, api.Errno) {
	ino := slices.Index(p.nodes, nil)
	if ino < 0 {
		return 0, api.ErrNospc
	}
	if e := p.add(c.dir, api.Entry{Ino: ino, Name: c.name}); e != api.OK {
		return 0, e
	}
	p.nodes[ino] = &node{kind: kind, links: 1, blocks: map[int]string{}}
	return ino, api.OK
}

// settle frees what has no links and is not open.
func (p *plain) settle(ino int) {
	for _, h := range p.open {
		if h.ino == ino {
			return
		}
	}
	if p.nodes[ino].links == 0 {
		p.nodes[ino] = nil
	}
}

func (p *plain) lose(ino int) {
	p.nodes[ino].links--
	p.settle(ino)
}

func (p *plain) openFile(path string, flags int) (int, api.Errno) {
	if flags < 1 || flags > 31 || flags&3 == 0 || flags&10 == 8 || flags&20 == 16 {
		return 0, api.ErrInval
	}
	names, e := split(path)
	if e != api.OK {
		return 0, e
	}
	if len(p.open) == 16 {
		return 0, api.ErrMfile
	}
	ino, e := p.enter(names, flags)
	if e != api.OK {
		return 0, e
	}
	fd := 0
	for p.open[fd].flags != 0 {
		fd++
	}
	p.open[fd] = handle{ino: ino, flags: flags}
	return fd, api.OK
}

func (p *plain) enter(names []string, flags int) (int, api.Errno) {
	if len(names) == 0 && flags&16 != 0 {
		return 0, api.ErrExist
	}
	if len(names) == 0 {
		return 0, api.ErrIsdir
	}
	c, e := p.corner(names)
	switch {
	case e != api.OK:
		return 0, e
	case c.ino == 0 && flags&4 == 0:
		return 0, api.ErrNoent
	case c.ino == 0:
		return p.create(c, api.KindFile)
	case flags&16 != 0:
		return 0, api.ErrExist
	case p.nodes[c.ino].kind == api.KindDir:
		return 0, api.ErrIsdir
	}
	if flags&8 != 0 {
		p.nodes[c.ino].size = 0
		clear(p.nodes[c.ino].blocks)
	}
	return c.ino, api.OK
}

func (p *plain) handle(fd, flags int) (handle, api.Errno) {
	h, has := p.open[fd]
	if !has || h.flags&flags != flags {
		return handle{}, api.ErrBadf
	}
	return h, api.OK
}

func (p *plain) closeFile(fd int) api.Errno {
	h, e := p.handle(fd, 0)
	if e == api.OK {
		delete(p.open, fd)
		p.settle(h.ino)
	}
	return e
}

var noughts = strings.Repeat("\x00", 128)

func (n *node) block(k int) string {
	if b, has := n.blocks[k]; has {
		return b
	}
	return noughts
}

func (p *plain) read(fd, n int) ([]byte, api.Errno) {
	h, e := p.handle(fd, 1)
	if e != api.OK {
		return nil, e
	}
	if n < 0 || n > 1024 {
		return nil, api.ErrInval
	}
	f := p.nodes[h.ino]
	var b []byte
	for end := min(h.at+n, f.size); h.at < end; {
		here := f.block(h.at / 128)[h.at%128:]
		here = here[:min(len(here), end-h.at)]
		b = append(b, here...)
		h.at += len(here)
	}
	p.open[fd] = h
	return b, api.OK
}

func (p *plain) write(fd int, b string) (int, api.Errno) {
	h, e := p.handle(fd, 2)
	if e != api.OK {
		return 0, e
	}
	if len(b) > 1024 {
		return 0, api.ErrInval
	}
	if h.at+len(b) > 136192 {
		return 0, api.ErrFbig
	}
	n := p.nodes[h.ino]
	next := *n
	next.blocks = maps.Clone(n.blocks)
	for at, rest := h.at, b; rest != ""; {
		in := at % 128
		count := min(128-in, len(rest))
		had := next.block(at / 128)
		next.blocks[at/128] = had[:in] + rest[:count] + had[in+count:]
		at, rest = at+count, rest[count:]
	}
	if next.takes()-n.takes() > p.free() {
		return 0, api.ErrNospc
	}
	n.blocks = next.blocks
	h.at += len(b)
	if len(b) > 0 {
		n.size = max(n.size, h.at)
	}
	p.open[fd] = h
	return len(b), api.OK
}

func (p *plain) seek(fd, off, whence int) (int, api.Errno) {
	h, e := p.handle(fd, 0)
	if e != api.OK {
		return 0, e
	}
	if whence < 0 || whence > 2 || off < -136192 || off > 136192 {
		return 0, api.ErrInval
	}
	at := off + []int{0, h.at, p.nodes[h.ino].size}[whence]
	if at < 0 || at > 136192 {
		return 0, api.ErrInval
	}
	h.at = at
	p.open[fd] = h
	return at, api.OK
}

func (p *plain) truncate(fd, size int) api.Errno {
	h, e := p.handle(fd, 2)
	if e != api.OK {
		return e
	}
	if size < 0 {
		return api.ErrInval
	}
	if size > 136192 {
		return api.ErrFbig
	}
	n := p.nodes[h.ino]
	for k, b := range n.blocks {
		if 128*k >= size {
			delete(n.blocks, k)
		} else if 128*k+128 > size {
			n.blocks[k] = b[:size-128*k] + noughts[:128*k+128-size]
		}
	}
	n.size = size
	return api.OK
}

func (p *plain) unlink(path string) api.Errno {
	c, e := p.cornerOf(path, api.ErrIsdir)
	switch {
	case e != api.OK:
		return e
	case c.ino == 0:
		return api.ErrNoent
	case p.nodes[c.ino].kind == api.KindDir:
		return api.ErrIsdir
	}
	c.drop()
	p.lose(c.ino)
	return api.OK
}

func (p *plain) mkdir(path string) api.Errno {
	c, e := p.cornerOf(path, api.ErrExist)
	if e != api.OK {
		return e
	}
	if c.ino != 0 {
		return api.ErrExist
	}
	_, e = p.create(c, api.KindDir)
	return e
}

func (p *plain) rmdir(path string) api.Errno {
	c, e := p.cornerOf(path, api.ErrInval)
	switch {
	case e != api.OK:
		return e
	case c.ino == 0:
		return api.ErrNoent
	case p.nodes[c.ino].kind != api.KindDir:
		return api.ErrNotdir
	case !p.nodes[c.ino].isEmpty():
		return api.ErrNotempty
	}
	c.drop()
	p.lose(c.ino)
	return api.OK
}

// splitTwo tells of two paths the first one's error first.
func splitTwo(from, to string) ([]string, []string, api.Errno) {
	a, e := split(from)
	if e != api.OK {
		return nil, nil, e
	}
	b, e := split(to)
	return a, b, e
}

func (p *plain) link(from, to string) api.Errno {
	a, b, e := splitTwo(from, to)
	if e != api.OK {
		return e
	}
	if len(a) == 0 {
		return api.ErrIsdir
	}
	c, e := p.corner(a)
	switch {
	case e != api.OK:
		return e
	case c.ino == 0:
		return api.ErrNoent
	case p.nodes[c.ino].kind == api.KindDir:
		return api.ErrIsdir
	case len(b) == 0:
		return api.ErrExist
	}
	d, e := p.corner(b)
	switch {
	case e != api.OK:
		return e
	case d.ino != 0:
		return api.ErrExist
	case p.nodes[c.ino].links == 200:
		return api.ErrMlink
	}
	if e := p.add(d.dir, api.Entry{Ino: c.ino, Name: d.name}); e != api.OK {
		return e
	}
	p.nodes[c.ino].links++
	return api.OK
}

func (p *plain) rename(from, to string) api.Errno {
	a, b, e := splitTwo(from, to)
	if e != api.OK {
		return e
	}
	if len(a) == 0 || len(b) == 0 {
		return api.ErrInval
	}
	c, e := p.corner(a)
	if e != api.OK {
		return e
	}
	if c.ino == 0 {
		return api.ErrNoent
	}
	isDir := p.nodes[c.ino].kind == api.KindDir
	if isDir && len(b) > len(a) && slices.Equal(b[:len(a)], a) {
		return api.ErrInval
	}
	d, e := p.corner(b)
	if e != api.OK || d.ino == c.ino {
		return e
	}
	if d.ino != 0 {
		return p.replace(c, d, isDir)
	}
	was := c.dir.at(c.name)
	c.drop()
	if e := p.add(d.dir, api.Entry{Ino: c.ino, Name: d.name}); e != api.OK {
		c.dir.places[was] = api.Entry{Ino: c.ino, Name: c.name}
		return e
	}
	return api.OK
}

func (p *plain) replace(c, d corner, isDir bool) api.Errno {
	old := p.nodes[d.ino]
	switch {
	case old.kind == api.KindDir && !isDir:
		return api.ErrIsdir
	case old.kind != api.KindDir && isDir:
		return api.ErrNotdir
	case !old.isEmpty():
		return api.ErrNotempty
	}
	d.dir.places[d.dir.at(d.name)] = api.Entry{Ino: c.ino, Name: d.name}
	c.drop()
	p.lose(d.ino)
	return api.OK
}

func (p *plain) stat(path string) (api.Stat, api.Errno) {
	names, e := split(path)
	if e != api.OK {
		return api.Stat{}, e
	}
	ino, e := p.walk(names)
	if e != api.OK {
		return api.Stat{}, e
	}
	n := p.nodes[ino]
	return api.Stat{Ino: ino, Kind: n.kind, Links: n.links, Size: n.size}, api.OK
}

func (p *plain) list(path string) ([]string, api.Errno) {
	x, e := p.stat(path)
	switch {
	case e != api.OK:
		return nil, e
	case x.Kind != api.KindDir:
		return nil, api.ErrNotdir
	}
	return p.nodes[x.Ino].names(), api.OK
}
