package dir

import (
	"bytes"

	"ashlar/api"
	"ashlar/octets"
	"ashlar/path"
)

// An entry's fields: where each begins.
const (
	inoAt    = 0
	lengthAt = inoAt + 4
	nameAt   = lengthAt + 1
)

// right tells whether an entry may be.
func right(x api.Entry) bool {
	return x.Ino >= 1 && x.Ino < api.MaxInodes && path.Name(x.Name) == api.OK
}

// Encode is an entry, as 32 bytes.
func Encode(x api.Entry) ([]byte, api.Errno) {
	if !right(x) {
		return nil, api.ErrArg
	}
	ino, _ := octets.Put(uint64(x.Ino), lengthAt-inoAt) // what may be has room
	b := make([]byte, api.EntrySize)
	copy(b[inoAt:], ino)
	b[lengthAt] = byte(len(x.Name))
	copy(b[nameAt:], x.Name)
	return b, api.OK
}

// Decode is the entry that 32 bytes are; false: it is free.
func Decode(b []byte) (api.Entry, bool, api.Errno) {
	switch {
	case len(b) != api.EntrySize:
		return api.Entry{}, false, api.ErrCode
	case bytes.Equal(b, make([]byte, api.EntrySize)):
		return api.Entry{}, false, api.OK
	}
	ino, _ := octets.Get(b, inoAt, lengthAt-inoAt)
	end := min(nameAt+int(b[lengthAt]), api.EntrySize)
	x := api.Entry{Ino: int(ino), Name: string(b[nameAt:end])}
	// No other bytes say the same: the length is the name's, and behind the name stand noughts.
	if again, e := Encode(x); e != api.OK || !bytes.Equal(b, again) {
		return api.Entry{}, false, api.ErrCode
	}
	return x, true, api.OK
}
