package inode

import (
	"bytes"
	"encoding/binary"
	"maps"
	"slices"
	"testing"

	"ashlar/api"
)

// A spot is where a block is named: 0 is Direct's a, 1 is Single, 2 is the entry a below that, 3 is Double, 4 is the
// entry a below that, if b is -1, else the entry b below this one. In this order Blocks tells them.
type spot struct{ level, a, b int }

// spots are those that lead to a file's block.
func spots(k int) []spot {
	if k < 8 {
		return []spot{{0, k, 0}}
	}
	if k < 40 {
		return []spot{{1, 0, 0}, {2, k - 8, 0}}
	}
	return []spot{{3, 0, 0}, {4, (k - 40) / 32, -1}, {4, (k - 40) / 32, (k - 40) % 32}}
}

// A plain file has blocks by spots, and the bytes of those that are its own.
type plainFile struct {
	kind, links, size int
	blocks            map[spot]int
	bytes             map[int]string
}

// A plain table is a table, told without the package.
type plain struct {
	taken map[int]struct{}
	count int // things
	files []plainFile
}

func plainOf(x shape) *plain {
	p := &plain{taken: map[int]struct{}{}, count: x.things}
	for range x.files {
		p.files = append(p.files, plainFile{blocks: map[spot]int{}, bytes: map[int]string{}})
	}
	return p
}

func (p *plain) clone() *plain {
	q := &plain{taken: maps.Clone(p.taken), count: p.count}
	for _, f := range p.files {
		f.blocks, f.bytes = maps.Clone(f.blocks), maps.Clone(f.bytes)
		q.files = append(q.files, f)
	}
	return q
}

// lacking are the spots that a write needs, and that are not there.
func (p *plain) lacking(ino, off, n int) []spot {
	var list []spot
	for at := off; at < off+n; at++ {
		for _, x := range spots(at / 128) {
			if _, has := p.files[ino].blocks[x]; !has && !slices.Contains(list, x) {
				list = append(list, x)
			}
		}
	}
	return list
}

func (p *plain) write(ino, off int, b []byte) api.Errno {
	lack := p.lacking(ino, off, len(b))
	switch {
	case off+len(b) > 136192:
		return api.ErrFbig
	case len(lack) > p.count-len(p.taken):
		return api.ErrNospc
	case len(b) == 0:
		return api.OK
	}
	f := &p.files[ino]
	thing := 0
	for _, x := range lack {
		for {
			if _, has := p.taken[thing]; !has {
				break
			}
			thing++
		}
		p.taken[thing] = struct{}{}
		f.blocks[x] = thing
	}
	for i, x := range b {
		at := off + i
		had := f.block(at / 128)
		had[at%128] = x
		f.bytes[at/128] = string(had)
	}
	f.size = max(f.size, off+len(b))
	return api.OK
}

func (f *plainFile) block(k int) []byte {
	if b, has := f.bytes[k]; has {
		return []byte(b)
	}
	return make([]byte, 128)
}

func (f *plainFile) read(off, n int) []byte {
	var out []byte
	for at := off; at < off+n && at < f.size; at++ {
		out = append(out, f.block(at / 128)[at%128])
	}
	return out
}

func (p *plain) drop(f *plainFile, x spot) {
	delete(p.taken, f.blocks[x])
	delete(f.blocks, x)
}

func (p *plain) cut(ino, size int) {
	f := &p.files[ino]
	var needed []spot // what the blocks that stay lead through
	for _, k := range slices.Sorted(maps.Keys(f.bytes)) {
		if 128*k < size {
			needed = append(needed, spots(k)...)
			continue
		}
		delete(f.bytes, k)
	}
	for _, x := range slices.Collect(maps.Keys(f.blocks)) {
		if !slices.Contains(needed, x) {
			p.drop(f, x)
		}
	}
	if k := size / 128; size < f.size {
		if b, has := f.bytes[k]; has {
			f.bytes[k] = b[:size%128] + string(make([]byte, 128-size%128))
		}
	}
	f.size = size
}

// spotsInOrder are all that a file has, in the order of Blocks.
func (f *plainFile) spotsInOrder() []spot {
	return slices.SortedFunc(maps.Keys(f.blocks), func(x, y spot) int {
		return slices.Compare([]int{x.level, x.a, x.b}, []int{y.level, y.a, y.b})
	})
}

// inode is what Get tells of a file whose things stand from a base on.
func (f *plainFile) inode(base int) api.Inode {
	n := api.Inode{Kind: f.kind, Links: f.links, Size: f.size}
	for x, thing := range f.blocks {
		switch x.level {
		case 0:
			n.Direct[x.a] = base + thing
		case 1:
			n.Single = base + thing
		case 3:
			n.Double = base + thing
		}
	}
	return n
}

// names are the bytes of a block that names others: those that the spots below name.
func (f *plainFile) names(base int, below func(x spot) (int, bool)) []byte {
	b := make([]byte, 128)
	for x, thing := range f.blocks {
		if place, has := below(x); has {
			binary.LittleEndian.PutUint32(b[4*place:], uint32(base+thing))
		}
	}
	return b
}

// content is what each of a file's blocks has.
func (f *plainFile) content(base int, x spot) []byte {
	switch {
	case x.level == 0:
		return f.block(x.a)
	case x.level == 1:
		return f.names(base, func(y spot) (int, bool) { return y.a, y.level == 2 })
	case x.level == 2:
		return f.block(8 + x.a)
	case x.level == 3:
		return f.names(base, func(y spot) (int, bool) { return y.a, y.level == 4 && y.b == -1 })
	case x.b == -1:
		return f.names(base, func(y spot) (int, bool) { return y.b, y.level == 4 && y.a == x.a && y.b >= 0 })
	}
	return f.block(40 + 32*x.a + x.b)
}

// settle holds a table against a plain one: all that each file has, and all things.
func (w *site) settle(t *testing.T, p *plain) {
	t.Helper()
	for ino := range p.files {
		f := &p.files[ino]
		if n, e := w.f.Get(ino); n != f.inode(w.base()) || e != api.OK {
			t.Fatalf("Get(%d) = %v, %d, not %v", ino, n, e, f.inode(w.base()))
		}
		var want []int
		for _, x := range f.spotsInOrder() {
			block := w.base() + f.blocks[x]
			want = append(want, block)
			if b, e := w.j.Read(block); !bytes.Equal(b, f.content(w.base(), x)) || e != api.OK {
				t.Fatalf("the file %d has at %v %x, %d, not %x", ino, x, b, e, f.content(w.base(), x))
			}
		}
		if l, e := w.f.Blocks(ino); !slices.Equal(l, want) || e != api.OK {
			t.Fatalf("Blocks(%d) = %v, %d, not %v", ino, l, e, want)
		}
	}
	for i := range p.count {
		_, has := p.taken[i]
		if got, e := w.m.Has(i); got != has || e != api.OK {
			t.Fatalf("the thing %d is taken: %v, %d", i, got, e)
		}
	}
}
