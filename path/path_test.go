package path

import (
	"fmt"
	"math/rand"
	"slices"
	"strings"
	"testing"

	"ashlar/api"
)

func splits(t *testing.T, p string, want []string, e api.Errno) {
	t.Helper()
	if got, err := Split(p); !slices.Equal(got, want) || err != e {
		t.Errorf("Split(%q) = %q, %d, not %q, %d", p, got, err, want, e)
	}
}

func joins(t *testing.T, names []string, want string, e api.Errno) {
	t.Helper()
	if got, err := Join(names); got != want || err != e {
		t.Errorf("Join(%q) = %q, %d, not %q, %d", names, got, err, want, e)
	}
}

// row is so many names, all as they may be.
func row(n int) []string {
	var list []string
	for i := range n {
		list = append(list, fmt.Sprint("n", i))
	}
	return list
}

// wide is so many names, each as long as a name may be, and one of so many bytes behind them.
func wide(n, last int) []string {
	return append(slices.Repeat([]string{strings.Repeat("w", 27)}, n), strings.Repeat("l", last))
}

func TestName(t *testing.T) { // P14.1
	long := strings.Repeat("x", 27)
	for s, want := range map[string]api.Errno{
		"a": api.OK, "...": api.OK, ".a": api.OK, "a.": api.OK, "..a": api.OK, " ": api.OK, "\\": api.OK,
		"\x01": api.OK, "\xff": api.OK, "\xff\xfe\x80": api.OK, "ä\u2215": api.OK, "\n": api.OK, "0": api.OK,
		long: api.OK, strings.Repeat("\xff", 27): api.OK, strings.Repeat("ä", 13): api.OK,
		"": api.ErrInval, ".": api.ErrInval, "..": api.ErrInval, "/": api.ErrInval, "\x00": api.ErrInval,
		"a/": api.ErrInval, "/a": api.ErrInval, "a/b": api.ErrInval, "a\x00": api.ErrInval, "\x00a": api.ErrInval,
		"\xff/": api.ErrInval, "\xff\x00\xfe": api.ErrInval, "ä/": api.ErrInval, "abcdefghijklmn/": api.ErrInval,
		"abcdefghijklmn\x00opq": api.ErrInval,
		long + "x":              api.ErrName, strings.Repeat("ä", 14): api.ErrName, strings.Repeat(".", 28): api.ErrName,
		long + "/":                             api.ErrInval, // ahead of ErrName
		long + "x\x00":                         api.ErrInval,
		strings.Repeat("x", 1<<20):             api.ErrName,
		strings.Repeat("x", 1<<20) + "/":       api.ErrInval,
		strings.Repeat("x", 1<<20) + "\x00":    api.ErrInval,
		"/" + strings.Repeat("x", 1<<20):       api.ErrInval,
		strings.Repeat("\xff", 1<<20) + "\x00": api.ErrInval,
	} {
		if e := Name(s); e != want {
			t.Errorf("Name(%.40q) = %d, not %d", s, e, want)
		}
	}
}

func TestEachByteOfAName(t *testing.T) { // P14.1
	for x := range 256 {
		for at := range 27 {
			b := []byte(strings.Repeat("n", 27))
			b[at] = byte(x)
			want := api.OK
			if x == 0 || x == '/' {
				want = api.ErrInval
			}
			if e := Name(string(b)); e != want {
				t.Errorf("Name(%q) = %d, not %d", b, e, want)
			}
		}
	}
}

func TestSplit(t *testing.T) { // P14.1
	splits(t, "/", nil, api.OK)
	splits(t, "/////", nil, api.OK)
	splits(t, "/a", []string{"a"}, api.OK)
	splits(t, "/a/", []string{"a"}, api.OK)
	splits(t, "/a///", []string{"a"}, api.OK)
	splits(t, "//a/b/", []string{"a", "b"}, api.OK)
	splits(t, "///b//a/////c", []string{"b", "a", "c"}, api.OK)
	splits(t, "/a/a/a", []string{"a", "a", "a"}, api.OK)
	splits(t, "/\xff/ /...", []string{"\xff", " ", "..."}, api.OK)
	for _, p := range []string{"", "a", "a/", "a/b", ".", "..", " /a", "\x00", "\x00/", "\\a"} {
		splits(t, p, nil, api.ErrInval)
	}
	for _, p := range []string{"/.", "/..", "/../a", "/a/./b", "/a/..", "/a//..//", "/\x00", "/a\x00", "/a/b\x00c/d"} {
		splits(t, p, nil, api.ErrInval)
	}
	long := "/" + strings.Repeat("x", 28)
	splits(t, long, nil, api.ErrName)
	splits(t, long+"/a", nil, api.ErrName)
	splits(t, "/a"+long, nil, api.ErrName)
	splits(t, long[:28], []string{long[1:28]}, api.OK)
	splits(t, long+"/..", nil, api.ErrName) // the first name that may not be
	splits(t, "/.."+long, nil, api.ErrInval)
	splits(t, long+"\x00", nil, api.ErrInval)
}

func TestHowLongAPathIs(t *testing.T) { // P14.1
	slashes := strings.Repeat("/", 255)
	splits(t, slashes, nil, api.OK)
	splits(t, slashes+"/", nil, api.ErrName)
	splits(t, slashes[1:]+"a", []string{"a"}, api.OK)
	splits(t, slashes+"a", nil, api.ErrName)
	splits(t, "/a"+slashes[2:], []string{"a"}, api.OK)
	splits(t, "/a"+slashes[1:], nil, api.ErrName)
	splits(t, "a"+slashes, nil, api.ErrInval) // ahead of ErrName
	splits(t, "/.."+slashes, nil, api.ErrName)
	splits(t, "/"+strings.Repeat("x", 1<<20), nil, api.ErrName)
	splits(t, strings.Repeat("x", 1<<20), nil, api.ErrInval)

	names := wide(8, 30)
	splits(t, "/"+strings.Join(names, "/"), nil, api.ErrName) // 255 bytes, but the last name has 30
	names = append(wide(8, 27), "ab")
	splits(t, "/"+strings.Join(names, "/"), names, api.OK) // 255 bytes
	names = append(wide(8, 27), "abc")
	splits(t, "/"+strings.Join(names, "/"), nil, api.ErrName)
}

func TestHowManyNamesAPathHas(t *testing.T) { // P14.1
	for n := range 30 {
		names := row(n)
		p := "/" + strings.Join(names, "//")
		if n <= 16 {
			splits(t, p, names, api.OK)
			splits(t, p+"/", names, api.OK)
		} else {
			splits(t, p, nil, api.ErrName)
		}
	}
	deep := "/" + strings.Join(row(16), "/")
	splits(t, deep+"///", row(16), api.OK)
	splits(t, deep+"/..", nil, api.ErrInval) // what Name tells of the 17th one
	splits(t, deep+"/x/..", nil, api.ErrName)
	splits(t, deep+"/x\x00", nil, api.ErrInval)
	splits(t, "/.."+deep, nil, api.ErrInval)
}

func TestJoin(t *testing.T) { // P14.2
	joins(t, nil, "/", api.OK)
	joins(t, []string{}, "/", api.OK)
	joins(t, []string{"a"}, "/a", api.OK)
	joins(t, []string{"a", "b"}, "/a/b", api.OK)
	joins(t, []string{"...", "\xff", " "}, "/.../\xff/ ", api.OK)
	for _, s := range []string{"", ".", "..", "/", "a/b", "/a", "a\x00"} {
		joins(t, []string{s}, "", api.ErrInval)
		joins(t, []string{s, "a"}, "", api.ErrInval)
		joins(t, []string{"a", s}, "", api.ErrInval)
		joins(t, []string{"a", s, "b"}, "", api.ErrInval)
	}
	long := strings.Repeat("x", 28)
	joins(t, []string{long}, "", api.ErrName)
	joins(t, []string{"a", long}, "", api.ErrName)
	joins(t, []string{long[1:]}, "/"+long[1:], api.OK)
	joins(t, []string{"a", long, ".."}, "", api.ErrName) // the first that may not be
	joins(t, []string{"a", "..", long}, "", api.ErrInval)

	joins(t, row(16), "/"+strings.Join(row(16), "/"), api.OK)
	joins(t, row(17), "", api.ErrName)
	joins(t, row(1000), "", api.ErrName)
	joins(t, append(row(17), ".."), "", api.ErrInval) // all names ahead of how many they are
	joins(t, append(row(1000), ""), "", api.ErrInval)

	whole := append(wide(8, 27), "ab")
	joins(t, whole, "/"+strings.Join(whole, "/"), api.OK) // 255 bytes
	joins(t, append(wide(8, 27), "abc"), "", api.ErrName)
	joins(t, wide(15, 27), "", api.ErrName)
	joins(t, append(wide(8, 27), "abc", ".."), "", api.ErrInval)
}

func TestParent(t *testing.T) { // P14.2
	for _, x := range []struct {
		p     string
		names []string
		last  string
		e     api.Errno
	}{
		{"/a/b", []string{"a"}, "b", api.OK},
		{"/a", nil, "a", api.OK},
		{"//a//", nil, "a", api.OK},
		{"/a/b/c///", []string{"a", "b"}, "c", api.OK},
		{"/" + strings.Join(row(16), "/"), row(15), "n15", api.OK},
		{"/" + strings.Join(row(17), "/"), nil, "", api.ErrName},
		{"/", nil, "", api.ErrInval},
		{"///", nil, "", api.ErrInval},
		{"", nil, "", api.ErrInval},
		{"a/b", nil, "", api.ErrInval},
		{"/a/..", nil, "", api.ErrInval},
		{"/./b", nil, "", api.ErrInval},
		{"/a/" + strings.Repeat("x", 28), nil, "", api.ErrName},
		{strings.Repeat("/", 256), nil, "", api.ErrName}, // ahead of ErrInval
	} {
		if names, last, e := Parent(x.p); !slices.Equal(names, x.names) || last != x.last || e != x.e {
			t.Errorf("Parent(%q) = %q, %q, %d, not %q, %q, %d", x.p, names, last, e, x.names, x.last, x.e)
		}
	}
}

func TestNothingIsAppendedToAParent(t *testing.T) { // P14.2
	for n := 1; n <= 16; n++ {
		names, _, e := Parent("/" + strings.Join(row(n), "/"))
		if e != api.OK || cap(names) != n-1 {
			t.Errorf("a parent of %d names has room for %d (%d)", n-1, cap(names), e)
		}
	}
}

func TestBelow(t *testing.T) { // P14.2
	list := func(s string) []string { return strings.Fields(s) }
	for _, x := range []struct {
		above, names string
		want         bool
	}{
		{"", "", true}, {"", "a", true}, {"a", "a", true}, {"a", "a b", true}, {"a b", "a b", true},
		{"a b", "a b c d", true}, {"a", "", false}, {"a", "b", false}, {"a b", "a", false}, {"a b", "b a", false},
		{"b", "a b", false}, {"a b", "a c b", false}, {"a", "ab", false}, {"ab", "a b", false}, {"a a", "a", false},
		{"a b c", "a b d", false}, {"a b c", "x b c", false}, {".. /", ".. / x", true},
	} {
		if got := Below(list(x.above), list(x.names)); got != x.want {
			t.Errorf("Below(%q, %q) = %v", x.above, x.names, got)
		}
	}
	if !Below(nil, nil) || !Below([]string{}, nil) || !Below(nil, []string{""}) || Below([]string{""}, nil) {
		t.Error("nothing is not above all")
	}
	long := slices.Repeat([]string{"a"}, 1000)
	if !Below(long[:999], long) || !Below(long, long) || Below(long, long[:999]) {
		t.Error("1000 names are not below 999")
	}
}

func TestWhatIsHandedInStays(t *testing.T) { // R3, R4
	room := []string{"a", "b", "c", "d"}
	Below(room[:2], room[:3])
	Join(room[:2])
	if p, e := Join(room[:2]); p != "/a/b" || e != api.OK {
		t.Errorf("what lies behind a list is joined: %q", p)
	}
	if Below(room[:3], room[:2]) {
		t.Error("what lies behind a list is read")
	}
	if !slices.Equal(room, []string{"a", "b", "c", "d"}) {
		t.Errorf("what was handed in is %q", room)
	}
	one, _ := Split("/a/b")
	two, _ := Split("/a/b")
	one[0] = "x"
	if two[0] != "a" {
		t.Error("two answers share their memory")
	}
}

// stir is a path of those names, with slashes where they change nothing.
func stir(r *rand.Rand, names []string) string {
	more := func(least int) string { return strings.Repeat("/", least+r.Intn(2)*r.Intn(3)) }
	p := more(1)
	for i, name := range names {
		if i > 0 {
			p += more(1)
		}
		p += name
	}
	return p + more(min(1, r.Intn(1+len(names))))
}

func TestPathsAreJoinedAndSplit(t *testing.T) { // P14.3
	r := rand.New(rand.NewSource(14))
	signs := []string{"a", "b", ".", "..", "\xff", "ä", " ", "xyz", strings.Repeat("q", 13)}
	kept := 0
	for range 20000 {
		var names []string
		for range r.Intn(18) {
			name := ""
			for range 1 + r.Intn(3) {
				name += signs[r.Intn(len(signs))]
			}
			names = append(names, name)
		}
		p, e := Join(names)
		if e != api.OK {
			if p != "" {
				t.Fatalf("Join(%q) = %q, %d", names, p, e)
			}
			continue
		}
		kept++
		splits(t, p, names, api.OK)
		wild := stir(r, names)
		if len(wild) > 255 {
			splits(t, wild, nil, api.ErrName)
			continue
		}
		splits(t, wild, names, api.OK)
		if len(names) > 0 {
			above, last, e := Parent(wild)
			if e != api.OK || !Below(above, names) || !slices.Equal(append(above, last), names) {
				t.Fatalf("Parent(%q) = %q, %q, %d", wild, above, last, e)
			}
		}
	}
	if kept < 1000 {
		t.Errorf("but %d paths were joined", kept)
	}
}

func TestAnyBytes(t *testing.T) { // P14.1, P1, R1
	r := rand.New(rand.NewSource(15))
	for range 20000 {
		b := make([]byte, r.Intn(300))
		for i := range b {
			b[i] = "/aA.\x00\xff"[r.Intn(6)>>r.Intn(3)]
		}
		names, e := Split(string(b))
		switch e {
		case api.OK:
			p, again := Join(names)
			if again != api.OK {
				t.Fatalf("Split(%q) = %q, which are not joined: %d", b, names, again)
			}
			splits(t, p, names, api.OK)
		case api.ErrInval, api.ErrName:
			if names != nil {
				t.Fatalf("Split(%q) = %q, %d", b, names, e)
			}
		default:
			t.Fatalf("Split(%q) = %d", b, e)
		}
	}
}
