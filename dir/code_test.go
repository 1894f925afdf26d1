package dir

import (
	"bytes"
	"math/rand"
	"slices"
	"strings"
	"testing"

	"ashlar/api"
)

// long is a name as long as a name may be.
var long = strings.Repeat("l", 27)

// bytesOf are an entry's 32 bytes, told without the package.
func bytesOf(x api.Entry) []byte {
	b := make([]byte, 32)
	b[0], b[1], b[2], b[3], b[4] = byte(x.Ino), byte(x.Ino>>8), byte(x.Ino>>16), byte(x.Ino>>24), byte(len(x.Name))
	copy(b[5:], x.Name)
	return b
}

func TestEntriesAsBytes(t *testing.T) { // P15.1
	for _, x := range []api.Entry{
		{Ino: 1, Name: "a"}, {Ino: 255, Name: long}, {Ino: 7, Name: "..."}, {Ino: 9, Name: "\xff"}, {Ino: 128, Name: " "},
		{Ino: 2, Name: long[1:]}, {Ino: 32, Name: "ä\u2215"}, {Ino: 31, Name: "\x01"},
	} {
		b, e := Encode(x)
		if !bytes.Equal(b, bytesOf(x)) || e != api.OK {
			t.Errorf("Encode(%v) = %x, %d, not %x", x, b, e, bytesOf(x))
		}
		if y, taken, e := Decode(b); y != x || !taken || e != api.OK {
			t.Errorf("Decode(%x) = %v, %v, %d, not %v", b, y, taken, e, x)
		}
		if !bytes.Equal(b, bytesOf(x)) {
			t.Errorf("Decode lets its bytes be %x", b)
		}
	}
	want := append([]byte{200, 0, 0, 0, 3, 'a', 'b', 'c'}, make([]byte, 24)...)
	if b, e := Encode(api.Entry{Ino: 200, Name: "abc"}); !bytes.Equal(b, want) || e != api.OK {
		t.Errorf("Encode = %x, %d", b, e)
	}
}

func TestEntriesThatMayNotBe(t *testing.T) { // P15.1
	for _, x := range []api.Entry{
		{}, {Ino: 1}, {Name: "a"}, {Ino: -1, Name: "a"}, {Ino: 256, Name: "a"}, {Ino: 1 << 32, Name: "a"}, {Ino: 1<<32 + 1, Name: "a"},
		{Ino: -1 << 63, Name: "a"}, {Ino: 1<<63 - 1, Name: "a"}, {Ino: 1, Name: "."}, {Ino: 1, Name: ".."}, {Ino: 1, Name: "a/b"},
		{Ino: 1, Name: "/"}, {Ino: 1, Name: "\x00"}, {Ino: 1, Name: "a\x00"}, {Ino: 1, Name: long + "l"}, {Ino: 1, Name: strings.Repeat("x", 1<<20)},
	} {
		if b, e := Encode(x); b != nil || e != api.ErrArg {
			t.Errorf("Encode(%d, %.40q) = %x, %d", x.Ino, x.Name, b, e)
		}
	}
}

func nothing(t *testing.T, b []byte, want api.Errno) {
	t.Helper()
	if x, taken, e := Decode(b); x != (api.Entry{}) || taken || e != want {
		t.Errorf("Decode(%.64x) = %v, %v, %d, not %d", b, x, taken, e, want)
	}
}

func TestBytesThatAreNoEntry(t *testing.T) { // P15.1
	nothing(t, make([]byte, 32), api.OK)
	good := bytesOf(api.Entry{Ino: 7, Name: "name"})
	for n := range 100 {
		if n != 32 {
			nothing(t, make([]byte, n), api.ErrCode)
			nothing(t, append(slices.Clone(good), make([]byte, 100)...)[:n], api.ErrCode)
		}
	}
	nothing(t, nil, api.ErrCode)
	nothing(t, make([]byte, 1<<20), api.ErrCode)
	for _, x := range []api.Entry{
		{Ino: 0, Name: "a"}, {Ino: 256, Name: "a"}, {Ino: 1 << 16, Name: "a"}, {Ino: 1<<24 + 1, Name: "a"}, {Ino: 1<<32 - 1, Name: "a"},
		{Ino: 1, Name: ""}, {Ino: 1, Name: "."}, {Ino: 1, Name: ".."}, {Ino: 1, Name: "a/b"}, {Ino: 1, Name: "a\x00"}, {Ino: 1, Name: "\x00"},
	} {
		nothing(t, bytesOf(x), api.ErrCode)
	}
	for n := range 256 { // a length that is not the name's
		b := slices.Clone(good)
		b[4] = byte(n)
		if n != 4 {
			nothing(t, b, api.ErrCode)
		}
	}
	for at := 9; at < 32; at++ { // what stands behind the name
		b := slices.Clone(good)
		b[at] = 1
		nothing(t, b, api.ErrCode)
	}
	for at := range 32 { // but one byte, and of a free place
		b := make([]byte, 32)
		b[at] = byte(at + 1)
		nothing(t, b, api.ErrCode)
	}
	full := bytesOf(api.Entry{Ino: 7, Name: long})
	full[4] = 28
	nothing(t, full, api.ErrCode)
}

func TestNoTwoBytesSayTheSame(t *testing.T) { // P15.1
	r := rand.New(rand.NewSource(15))
	for range 50000 {
		b := make([]byte, 32)
		for i := range 1 + r.Intn(12) {
			b[i] = byte(r.Intn(9))
			if i > 4 {
				b[i] += "\x00/.a"[r.Intn(4)]
			}
		}
		x, taken, e := Decode(b)
		switch {
		case e == api.ErrCode:
			nothing(t, b, api.ErrCode)
		case e != api.OK:
			t.Fatalf("Decode(%x) = %d", b, e)
		case taken != !bytes.Equal(b, make([]byte, 32)):
			t.Fatalf("Decode(%x) = %v, %v", b, x, taken)
		case taken:
			if again, e := Encode(x); !bytes.Equal(again, b) || e != api.OK {
				t.Fatalf("Decode(%x) = %v, which is %x, %d", b, x, again, e)
			}
		}
	}
}
