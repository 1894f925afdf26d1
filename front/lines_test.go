package front

import (
	"fmt"
	"math"
	"math/rand"
	"reflect"
	"regexp"
	"strings"
	"testing"

	"ashlar/api"
)

// A saying is a line, and the step that it says.
type saying struct {
	line string
	step api.Step
}

// sayings are lines of all kinds.
func sayings() []saying {
	return []saying{
		{"open /x 7", api.Step{Kind: api.StepOpen, Path: "/x", N: 7}},
		{"open % -1", api.Step{Kind: api.StepOpen, N: -1}},
		{"close 15", api.Step{Kind: api.StepClose, Fd: 15}},
		{"read 3 1024", api.Step{Kind: api.StepRead, Fd: 3, N: 1024}},
		{"write 3 a%20b%00", api.Step{Kind: api.StepWrite, Fd: 3, Data: "a b\x00"}},
		{"write -3 %", api.Step{Kind: api.StepWrite, Fd: -3}},
		{"write 0 -", api.Step{Kind: api.StepWrite, Data: "-"}},
		{"seek 1 -5 2", api.Step{Kind: api.StepSeek, Fd: 1, N: -5, At: 2}},
		{"truncate 2 136192", api.Step{Kind: api.StepTruncate, Fd: 2, N: 136192}},
		{"unlink /d/x", api.Step{Kind: api.StepUnlink, Path: "/d/x"}},
		{"mkdir /d", api.Step{Kind: api.StepMkdir, Path: "/d"}},
		{"rmdir /d%0A", api.Step{Kind: api.StepRmdir, Path: "/d\n"}},
		{"rename /a /b", api.Step{Kind: api.StepRename, Path: "/a", To: "/b"}},
		{"link /a %", api.Step{Kind: api.StepLink, Path: "/a"}},
		{"link % /a", api.Step{Kind: api.StepLink, To: "/a"}},
		{"stat /", api.Step{Kind: api.StepStat, Path: "/"}},
		{"list 12", api.Step{Kind: api.StepList, Path: "12"}},
		{"fsync 4", api.Step{Kind: api.StepFsync, Fd: 4}},
		{"sync", api.Step{Kind: api.StepSync}},
		{"tick", api.Step{Kind: api.StepTick}},
		{"rebuild", api.Step{Kind: api.StepRebuild}},
		{"stop 0", api.Step{Kind: api.StepStop}},
		{"stop 999999999", api.Step{Kind: api.StepStop, N: 999999999}},
		{"stop -999999999", api.Step{Kind: api.StepStop, N: -999999999}},
		{"crash", api.Step{Kind: api.StepCrash}},
		{"crash -", api.Step{Kind: api.StepCrash, Keep: [][]int{{}}}},
		{"crash 0,2 -", api.Step{Kind: api.StepCrash, Keep: [][]int{{0, 2}, {}}}},
		{"crash - 7 -1,-999999999,0,0,999999999", api.Step{Kind: api.StepCrash, Keep: [][]int{{}, {7}, {-1, -999999999, 0, 0, 999999999}}}},
		{"crash" + strings.Repeat(" 1", 17), api.Step{Kind: api.StepCrash, Keep: [][]int{{1}, {1}, {1}, {1}, {1}, {1}, {1}, {1}, {1}, {1}, {1}, {1}, {1}, {1}, {1}, {1}, {1}}}},
		{"mount", api.Step{Kind: api.StepMount}},
		{"kill 16", api.Step{Kind: api.StepKill, N: 16}},
		{"corrupt 1 2 3 %FF", api.Step{Kind: api.StepCorrupt, N: 1, At: 2, Fd: 3, Data: "\xff"}},
		{"corrupt -1 -2 -3 abc", api.Step{Kind: api.StepCorrupt, N: -1, At: -2, Fd: -3, Data: "abc"}},
		{"count", api.Step{Kind: api.StepCount}},
	}
}

// alike tells whether two steps are: a nil list and an empty one are.
func alike(a, b api.Step) bool {
	x, y := fmt.Sprint(a.Keep), fmt.Sprint(b.Keep)
	a.Keep, b.Keep = nil, nil
	return x == y && reflect.DeepEqual(a, b)
}

func says(t *testing.T, line string, want api.Step) {
	t.Helper()
	if got, e := Parse(line); e != api.OK || !alike(got, want) {
		t.Errorf("Parse(%.200q): %+v, error %d, not %+v", line, got, e, want)
	}
}

func saysNothing(t *testing.T, line string) {
	t.Helper()
	if got, e := Parse(line); e != api.ErrLine || !reflect.DeepEqual(got, api.Step{}) {
		t.Errorf("Parse(%.200q): %+v, error %d, not error %d alone", line, got, e, api.ErrLine)
	}
}

func prints(t *testing.T, s api.Step, want string) {
	t.Helper()
	if got, e := Print(s); e != api.OK || got != want {
		t.Errorf("Print(%+v): %.200q, error %d, not %q", s, got, e, want)
	}
}

func hasNoLine(t *testing.T, s api.Step) {
	t.Helper()
	if got, e := Print(s); e != api.ErrArg || got != "" {
		t.Errorf("Print(%.300v): %.200q, error %d, not error %d alone", s, got, e, api.ErrArg)
	}
}

// P18.1, P18.4: lines of all kinds are parsed, and printed.
func TestLines(t *testing.T) {
	seen := map[int]bool{}
	for _, x := range sayings() {
		says(t, x.line, x.step)
		prints(t, x.step, x.line)
		seen[x.step.Kind] = true
	}
	if len(seen) != api.StepCount {
		t.Errorf("%d kinds, not %d", len(seen), api.StepCount)
	}
}

// named are the fields of each kind.
func named(kind int) string {
	return []string{
		"", "Path N", "Fd", "Fd N", "Fd Data", "Fd N At", "Fd N", "Path", "Path", "Path", "Path To", "Path To", "Path", "Path", "Fd", "", "", "",
		"N", "Keep", "", "N", "N At Fd Data", "",
	}[kind]
}

// P18.1: a field that a kind does not name is not printed, whatever it is.
func TestFieldsNotNamed(t *testing.T) {
	for _, x := range sayings() {
		for i, number := range []int{1, -1, 1e9, math.MinInt, math.MaxInt} {
			s, text := x.step, strings.Repeat("y z", 1+i*20000)
			for field, spoil := range map[string]func(){
				"Path": func() { s.Path = text }, "To": func() { s.To = text }, "Data": func() { s.Data = text },
				"Fd": func() { s.Fd = number }, "N": func() { s.N = number }, "At": func() { s.At = number },
				"Keep": func() { s.Keep = [][]int{18: {number}} },
			} {
				if !strings.Contains(" "+named(s.Kind)+" ", " "+field+" ") {
					spoil()
				}
			}
			prints(t, s, x.line)
		}
	}
}

// P18.1: a line with a word less, a word more, or other blanks says nothing.
func TestWordsOfLines(t *testing.T) {
	for _, x := range sayings() {
		words := strings.Split(x.line, " ")
		if x.step.Kind != api.StepCrash {
			saysNothing(t, x.line+" 0")
			saysNothing(t, x.line+" "+words[len(words)-1])
			if len(words) > 1 {
				saysNothing(t, strings.Join(words[:len(words)-1], " "))
			}
		}
		for _, line := range []string{
			x.line + " ", " " + x.line, x.line + "  ", x.line + "\n", x.line + "\r", "\n" + x.line, x.line + "\t", x.line + "\x00", x.line + " x y", x.line + " #",
			strings.ToUpper(words[0]) + x.line[len(words[0]):], strings.ToUpper(x.line[:1]) + x.line[1:], "%" + x.line, x.line[1:], "x" + x.line, "# " + x.line,
		} {
			saysNothing(t, line)
		}
		if len(words) > 1 {
			for _, sign := range []string{"  ", "\t", ",", "", " \x00", " , ", "\u00a0", "%20"} {
				saysNothing(t, strings.Replace(x.line, " ", sign, 1))
			}
		}
	}
	for _, line := range []string{"", " ", "%", "-", "0", "1", "nothing", "op", "opens", "syn", "synchronize", "crash0", "crash,0", "ok", "error 40", "\xff", "sync\nsync"} {
		saysNothing(t, line)
	}
}

// P18.1: what is a number, in all places that have one.
func TestNumbers(t *testing.T) {
	for word, n := range map[string]int{"0": 0, "1": 1, "9": 9, "10": 10, "-1": -1, "-10": -10, "123456789": 123456789, "999999999": 999999999, "-999999999": -999999999} {
		says(t, "close "+word, api.Step{Kind: api.StepClose, Fd: n})
		says(t, "read 1 "+word, api.Step{Kind: api.StepRead, Fd: 1, N: n})
		says(t, "seek 1 2 "+word, api.Step{Kind: api.StepSeek, Fd: 1, N: 2, At: n})
		says(t, "crash - 1,"+word, api.Step{Kind: api.StepCrash, Keep: [][]int{{}, {1, n}}})
		says(t, "crash "+word+",1", api.Step{Kind: api.StepCrash, Keep: [][]int{{n, 1}}})
	}
	for _, word := range []string{
		"", "-", "--1", "-0", "00", "01", "-01", "+1", "+0", "1-", "1.", "1.0", "1e3", "0x1", "0b1", "0o7", "1_0", "a", "%", "%31", "1%", "\u0661", "\xb9", "x1", "1x", "1\x00",
		"1000000000", "-1000000000", "1000000001", "9999999999", "2147483648", "4294967296", "9223372036854775807", "9223372036854775808", "-9223372036854775808",
		"18446744073709551616", "18446744073709551617", "0999999999", "00000000001", "1,", ",1", "1,2", "-,1",
	} {
		for _, line := range []string{"close ", "read 1 ", "open /x ", "seek 1 2 ", "stop ", "corrupt 1 2 "} {
			if line == "corrupt 1 2 " {
				saysNothing(t, line+word+" x")
				continue
			}
			saysNothing(t, line+word)
		}
		saysNothing(t, "read "+word+" 1")
		saysNothing(t, "seek 1 "+word+" 2")
		saysNothing(t, "crash 0,"+word+",,")
		if word != "1,2" {
			saysNothing(t, "crash 0,"+word)
			saysNothing(t, "crash - 0,"+word+",0")
		}
		if word != "-" && word != "1,2" {
			saysNothing(t, "crash "+word)
			saysNothing(t, "crash 0 "+word+" 0")
		}
	}
	saysNothing(t, "close "+strings.Repeat("9", 60000))
	saysNothing(t, "close "+strings.Repeat("0", 60000)+"1")
}

// P18.1: a crash has 17 lists at most.
func TestKeep(t *testing.T) {
	for _, word := range []string{"-", "0", "-5,7"} {
		list := map[string][]int{"-": {}, "0": {0}, "-5,7": {-5, 7}}[word]
		keep := [][]int{}
		for n := range 25 {
			line, s := "crash"+strings.Repeat(" "+word, n), api.Step{Kind: api.StepCrash, Keep: keep}
			if n <= 17 {
				says(t, line, s)
				prints(t, s, line)
			} else {
				saysNothing(t, line)
				hasNoLine(t, s)
			}
			keep = append(keep, list)
		}
	}
	prints(t, api.Step{Kind: api.StepCrash, Keep: [][]int{nil, {}, nil}}, "crash - - -")
	prints(t, api.Step{Kind: api.StepCrash, Keep: [][]int{}}, "crash")
	saysNothing(t, "crash"+strings.Repeat(" -", 30000))
	hasNoLine(t, api.Step{Kind: api.StepCrash, Keep: make([][]int, 1<<20)})
}

// P18.1: a line has MaxText bytes at most; P18.4: what is printed, too.
func TestLongLines(t *testing.T) {
	for _, x := range []struct {
		head, fill string
		step       func(n int) api.Step
	}{
		{"mkdir /", "x", func(n int) api.Step { return api.Step{Kind: api.StepMkdir, Path: "/" + strings.Repeat("x", n)} }},
		{"write 0 /", "%20", func(n int) api.Step { return api.Step{Kind: api.StepWrite, Data: "/" + strings.Repeat(" ", n)} }},
		{"rename a /", "y", func(n int) api.Step {
			return api.Step{Kind: api.StepRename, Path: "a", To: "/" + strings.Repeat("y", n)}
		}},
		{"crash 1", ",0", func(n int) api.Step {
			return api.Step{Kind: api.StepCrash, Keep: [][]int{append([]int{1}, make([]int, n)...)}}
		}},
	} {
		most := (api.MaxText - len(x.head)) / len(x.fill)
		for n := most - 2; n <= most+4; n++ {
			line := x.head + strings.Repeat(x.fill, n)
			if n <= most {
				says(t, line, x.step(n))
				prints(t, x.step(n), line)
			} else {
				saysNothing(t, line)
				hasNoLine(t, x.step(n))
			}
		}
		hasNoLine(t, x.step(1<<20))
	}
	exact := "mkdir " + strings.Repeat("x", 65536-6)
	says(t, exact, api.Step{Kind: api.StepMkdir, Path: exact[6:]})
	saysNothing(t, exact+"x")
	saysNothing(t, strings.Repeat(" ", 1<<20))
	saysNothing(t, "sync"+strings.Repeat(" ", 1<<20))
	saysNothing(t, strings.Repeat("sync", 1<<20))
}

// P18.1: a step of no kind has no line, nor has one with a number that no line has.
func TestNoLines(t *testing.T) {
	for _, kind := range []int{0, -1, -7, 24, 25, 255, 256, 279, math.MaxInt, math.MinInt} {
		hasNoLine(t, api.Step{Kind: kind})
		hasNoLine(t, api.Step{Kind: kind, Path: "/x", To: "/y", Fd: 1, N: 2, At: 3, Data: "z", Keep: [][]int{{1}}})
	}
	for _, n := range []int{1e9, -1e9, 1e9 + 1, -1e9 - 1, 1 << 31, -1 << 31, 1 << 32, 1<<32 + 1, math.MaxInt, math.MinInt} {
		for _, x := range sayings() {
			for field, spoil := range map[string]func(s *api.Step){
				"Fd": func(s *api.Step) { s.Fd = n }, "N": func(s *api.Step) { s.N = n }, "At": func(s *api.Step) { s.At = n },
				"Keep": func(s *api.Step) { s.Keep = [][]int{{}, {1, n}} },
			} {
				if s := x.step; strings.Contains(" "+named(s.Kind)+" ", " "+field+" ") {
					spoil(&s)
					hasNoLine(t, s)
				}
			}
		}
	}
}

// lineForm is what all lines are like, as the document's table has it.
var lineForm = func() *regexp.Regexp {
	const (
		word = `(?:%|(?:[A-Za-z0-9/._-]|%(?:[0189A-F][0-9A-F]|2[0-9A-C]|3[A-F]|40|5[B-E]|60|7[B-F]))+)`
		num  = `(?:0|-?[1-9][0-9]{0,8})`
		list = `(?:-|` + num + `(?:,` + num + `)*)`
	)
	form := `open P N|close N|read N N|write N P|seek N N N|truncate N N|unlink P|mkdir P|rmdir P|rename P P|link P P|stat P|list P|fsync N|sync|tick|rebuild|` +
		`stop N|crash(?: L){0,17}|mount|kill N|corrupt N N N P|count`
	return regexp.MustCompile(`\A(?:` + strings.NewReplacer("P", word, "N", num, "L", list).Replace(form) + `)\z`)
}()

// P18.1, P18.4: lines that are put together, cut and turned by chance: what is like a line is parsed, and printed again as it was; the rest is not.
func TestRandomLines(t *testing.T) {
	r, list := rand.New(rand.NewSource(4)), sayings()
	signs := []string{" ", "%", "-", "0", "1", ",", "x", "%20", "%41", "9", "\n", "F", "/", "-1", " 0", " -", "999999999", "\xff"}
	good := 0
	for range 60000 {
		line := list[r.Intn(len(list))].line
		for range r.Intn(3) {
			at := r.Intn(len(line) + 1)
			line = line[:at] + signs[r.Intn(len(signs))] + line[min(at+r.Intn(3), len(line)):]
		}
		if r.Intn(4) == 0 {
			words := strings.Split(line, " ")
			words[r.Intn(len(words))] = signs[r.Intn(len(signs))]
			line = strings.Join(words, " ")
		}
		if !lineForm.MatchString(line) {
			saysNothing(t, line)
			continue
		}
		good++
		s, e := Parse(line)
		if e != api.OK {
			t.Fatalf("Parse(%q): error %d", line, e)
		}
		prints(t, s, line)
	}
	if good < 10000 || good > 50000 {
		t.Errorf("%d lines say a step: there is little to see", good)
	}
}

// P18.4: random steps: what was printed is parsed.
func TestRandomSteps(t *testing.T) {
	r := rand.New(rand.NewSource(5))
	text := func() string {
		b := make([]byte, r.Intn(6))
		for i := range b {
			b[i] = byte(r.Intn(256))
		}
		return string(b)
	}
	number := func() int { return []int{0, 1, -1, r.Intn(2e9-1) - 999999999, 999999999, -999999999}[r.Intn(6)] }
	for range 20000 {
		s, kind := api.Step{}, 1+r.Intn(api.StepCount)
		s.Kind = kind
		for _, field := range strings.Fields(named(kind)) {
			switch field {
			case "Path":
				s.Path = text()
			case "To":
				s.To = text()
			case "Data":
				s.Data = text()
			case "Fd":
				s.Fd = number()
			case "N":
				s.N = number()
			case "At":
				s.At = number()
			case "Keep":
				for range r.Intn(18) {
					var list []int
					for range r.Intn(4) {
						list = append(list, number())
					}
					s.Keep = append(s.Keep, list)
				}
			}
		}
		line, e := Print(s)
		if e != api.OK || !lineForm.MatchString(line) {
			t.Fatalf("Print(%+v): %q, error %d", s, line, e)
		}
		says(t, line, s)
	}
}

// R3: what is handed in is not changed and not kept; what is handed out is new memory.
func TestLinesShareNothing(t *testing.T) {
	keep := [][]int{{3, 4}, {5}}
	s := api.Step{Kind: api.StepCrash, Keep: keep}
	prints(t, s, "crash 3,4 5")
	if fmt.Sprint(keep) != "[[3 4] [5]]" {
		t.Errorf("the lists have become %v", keep)
	}
	a, _ := Parse("crash 3,4 5 - -")
	b, _ := Parse("crash 3,4 5 - -")
	for _, list := range a.Keep {
		for i := range list {
			list[i] = 9
		}
		_ = append(list, 8)
	}
	if fmt.Sprint(a.Keep, b.Keep) != "[[9 9] [9] [] []] [[3 4] [5] [] []]" {
		t.Errorf("lists share memory: %v and %v", a.Keep, b.Keep)
	}
}
