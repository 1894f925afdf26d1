package inode

import (
	"bytes"

	"ashlar/api"
	"ashlar/octets"
)

// The greatest number of a block that a file names itself.
const maxBlock = 1<<16 - 1

// What a file names itself, as the first steps of a way: Direct's are 0 to 7.
const (
	single  = api.Direct
	double  = single + 1
	numbers = double + 1
)

// number is what a file names by a first step.
func number(n *api.Inode, step int) *int {
	switch step {
	case single:
		return &n.Single
	case double:
		return &n.Double
	}
	return &n.Direct[step]
}

// mayBe tells whether a file may be.
func mayBe(n api.Inode) bool {
	if n.Kind == api.KindFree {
		return n == api.Inode{}
	}
	for step := range numbers {
		if x := *number(&n, step); x < 0 || x > maxBlock {
			return false
		}
	}
	return n.Kind > 0 && n.Kind <= api.KindDir &&
		n.Links >= 0 && n.Links <= api.MaxLinks &&
		n.Size >= 0 && n.Size <= api.MaxFile
}

// A field is a number of a file: where it stands in its bytes, and in how many.
type field struct {
	number    *int
	at, width int
}

// fields are all of a file's numbers; its other bytes are noughts.
func fields(n *api.Inode) []field {
	list := []field{{&n.Kind, 0, 1}, {&n.Links, 2, 2}, {&n.Size, 4, 4}}
	for step := range numbers {
		list = append(list, field{number(n, step), 8 + entrySize*step, entrySize})
	}
	return list
}

// Encode is a file, as 64 bytes.
func Encode(n api.Inode) ([]byte, api.Errno) {
	if !mayBe(n) {
		return nil, api.ErrArg
	}
	out := make([]byte, api.InodeSize)
	for _, f := range fields(&n) {
		b, _ := octets.Put(uint64(*f.number), f.width) // what may be has room
		copy(out[f.at:], b)
	}
	return out, api.OK
}

// Decode is the file that 64 bytes are.
func Decode(b []byte) (api.Inode, api.Errno) {
	var n api.Inode
	for _, f := range fields(&n) {
		x, e := octets.Get(b, f.at, f.width)
		if e != api.OK {
			return api.Inode{}, api.ErrCode
		}
		*f.number = int(x)
	}
	// No other bytes say the same.
	if right, e := Encode(n); e != api.OK || !bytes.Equal(b, right) {
		return api.Inode{}, api.ErrCode
	}
	return n, api.OK
}
