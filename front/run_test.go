package front

import (
	"fmt"
	"math"
	"strings"
	"testing"

	"ashlar/api"
	"ashlar/world"
)

// small is the world of the document's examples.
var small = api.Conf{Members: 3, Spare: true, Stripes: 40, Logs: 1, Inodes: 4, Ring: 28, Cache: 4}

// full is an answer with all fields, as no step has it.
func full(e api.Errno) api.Reply {
	return api.Reply{Err: e, N: -12, Data: "a b\x00", List: []string{"x", "", "y z"}, Stat: api.Stat{Ino: 1, Kind: -2, Links: 0, Size: 136192}}
}

// P18.2: what is told of each kind, and of those that there are not.
func TestAnswer(t *testing.T) {
	wants := map[int]string{
		api.StepOpen: "ok -12", api.StepWrite: "ok -12", api.StepSeek: "ok -12", api.StepTick: "ok -12", api.StepCount: "ok -12",
		api.StepRead: "ok a%20b%00", api.StepStat: "ok 1 -2 0 136192", api.StepList: "ok x % y%20z",
	}
	for _, kind := range []int{math.MinInt, -1, 0, math.MaxInt} {
		wants[kind] = "ok"
	}
	for kind := range 300 {
		if wants[kind] == "" {
			wants[kind] = "ok"
		}
	}
	for kind, want := range wants {
		if got := Answer(kind, full(api.OK)); got != want {
			t.Errorf("Answer(%d, ..): %q, not %q", kind, got, want)
		}
		for _, e := range []api.Errno{1, 10, 20, 31, 40, 7777, -1, math.MaxInt, math.MinInt} {
			if got, want := Answer(kind, full(e)), fmt.Sprintf("error %d", int(e)); got != want {
				t.Errorf("Answer(%d, error %d): %q", kind, e, got)
			}
		}
	}
}

// P18.2: the edges of what is told.
func TestAnswersOfAnySize(t *testing.T) {
	for _, x := range []struct {
		kind int
		r    api.Reply
		want string
	}{
		{api.StepOpen, api.Reply{}, "ok 0"},
		{api.StepTick, api.Reply{N: math.MinInt}, "ok -9223372036854775808"},
		{api.StepCount, api.Reply{N: math.MaxInt}, "ok 9223372036854775807"},
		{api.StepSeek, api.Reply{N: 1e9}, "ok 1000000000"},
		{api.StepRead, api.Reply{}, "ok %"},
		{api.StepRead, api.Reply{N: 5}, "ok %"},
		{api.StepRead, api.Reply{Data: "%"}, "ok %25"},
		{api.StepStat, api.Reply{}, "ok 0 0 0 0"},
		{api.StepStat, api.Reply{Stat: api.Stat{Ino: math.MinInt, Kind: math.MaxInt, Links: -1e9, Size: 1e9}}, "ok -9223372036854775808 9223372036854775807 -1000000000 1000000000"},
		{api.StepList, api.Reply{}, "ok"},
		{api.StepList, api.Reply{List: []string{}}, "ok"},
		{api.StepList, api.Reply{List: []string{""}}, "ok %"},
		{api.StepList, api.Reply{List: []string{"b", "a", "b", "\xff\n"}}, "ok b a b %FF%0A"},
		{api.StepSync, api.Reply{}, "ok"},
	} {
		if got := Answer(x.kind, x.r); got != x.want {
			t.Errorf("Answer(%d, %+v): %q, not %q", x.kind, x.r, got, x.want)
		}
	}
	data := strings.Repeat("x\n", 1<<20)
	if got := Answer(api.StepRead, api.Reply{Data: data}); got != "ok "+strings.Repeat("x%0A", 1<<20) {
		t.Error("much that is read is another thing")
	}
	r := full(api.OK)
	Answer(api.StepList, r)
	if fmt.Sprint(r) != fmt.Sprint(full(api.OK)) {
		t.Errorf("the answer has become %+v", r)
	}
}

func runs(t *testing.T, text, want string) {
	t.Helper()
	if got, e := Run(small, text); e != api.OK || got != want {
		t.Errorf("Run(%.4000q): error %d, %.4000q, not %.4000q", text, e, got, want)
	}
}

// P18.3: the document's ten examples of the whole.
func TestExamples(t *testing.T) {
	for script, want := range map[string]string{
		"mkdir /d / list /": "ok; ok d",
		"open /x 7 / write 0 hello / seek 0 1 0 / read 0 9":             "ok 0; ok 5; ok 1; ok ello",
		"open /x 7 / write 0 hello / crash / mount / stat /x":           "ok 0; ok 5; ok; ok; error 21",
		"open /x 7 / write 0 hello / fsync 0 / crash / mount / stat /x": "ok 0; ok 5; ok; ok; ok; ok 1 1 1 5",
		"mkdir /d / sync / kill 1 / crash / mount / list /":             "ok; ok; ok; ok; ok; ok d",
		"kill 1 / rebuild / tick / tick":                                "ok; ok; ok 1; ok 1",
		"tick / rebuild":                                                "ok 2; error 7",
		"mkdir /a / mkdir /a/b / rename /a /a/b/c":                      "ok; ok; error 25",
		"open /x 7 / unlink /x / write 0 q / close 0 / stat /x":         "ok 0; ok; ok 1; ok; error 21",
		"stop 0 / mkdir /d / sync / crash / mount / list /":             "ok; ok; error 3; ok; ok; ok",
	} {
		runs(t, strings.ReplaceAll(script, " / ", "\n"), strings.ReplaceAll(want, "; ", "\n")+"\n")
	}
}

// P18.3, P18.5: a script with steps of all kinds; their fields come to where they belong.
func TestAllKinds(t *testing.T) {
	var text, want []string
	for _, x := range [][2]string{
		{"# all kinds", ""}, {"", ""},
		{"mkdir /a%20b", "ok"}, {"open /a%20b/x 15", "ok 0"}, {"open /a%20b/x 1", "ok 1"}, {"open /a%20b/x 31", "error 20"}, {"write 0 he%20llo%00%FF", "ok 8"},
		{"read 1 6", "ok he%20llo"}, {"read 1 9", "ok %00%FF"}, {"read 1 9", "ok %"}, {"read 1 -1", "error 25"}, {"read 1 1025", "error 25"}, {"write 1 x", "error 30"},
		{"write 0 %", "ok 0"}, {"seek 1 -3 2", "ok 5"}, {"seek 1 -1 1", "ok 4"}, {"read 1 2", "ok lo"}, {"seek 1 2 0", "ok 2"}, {"seek 1 0 3", "error 25"},
		{"truncate 0 3", "ok"}, {"stat /a%20b/x", "ok 2 1 1 3"}, {"stat /a%20b", "ok 1 2 1 32"}, {"link /a%20b/x /%25", "ok"}, {"link /a%20b /c", "error 23"},
		{"list /", "ok %25 a%20b"}, {"list /a%20b", "ok x"}, {"list /%25", "error 22"}, {"list x", "error 25"}, {"stat /%25", "ok 2 1 2 3"},
		{"rename /a%20b/x /a%20b/z", "ok"}, {"list /a%20b", "ok z"}, {"rmdir /a%20b", "error 24"}, {"unlink /%25", "ok"}, {"unlink /%25", "error 21"},
		{"close 1", "ok"}, {"close 1", "error 30"}, {"close 16", "error 30"}, {"fsync 0", "ok"}, {"sync", "ok"}, {"kill 3", "ok"}, {"kill 4", "error 1"}, {"kill -1", "error 1"},
		{"corrupt 0 0 0 %00%00", "error 1"}, {"corrupt 0 0 0 %", "error 1"}, {"corrupt 0 47 0 x", "error 1"}, {"corrupt 0 46 127 x", "ok"}, {"corrupt 0 46 128 x", "error 1"},
		{"corrupt 3 0 0 x", "ok"}, {"corrupt 4 0 0 x", "error 1"}, {"corrupt 0 128 0 x", "error 1"}, {"rebuild", "error 7"}, {"tick", "ok 2"}, {"mount", "error 9"},
		{"crash - - - 0,1,2", "ok"}, {"list /", "error 9"}, {"tick", "error 9"}, {"rebuild", "error 9"}, {"open /x 7", "error 9"}, {"sync", "error 9"}, {"mount", "ok"},
		{"list /", "ok a%20b"}, {"read 0 1", "error 30"}, {"open /a%20b/z 1", "ok 0"}, {"read 0 1024", "ok he%20"}, {"stop 3", "ok"}, {"mkdir /e", "ok"}, {"sync", "error 3"},
		{"mkdir /f", "error 27"}, {"crash", "ok"}, {"stop 0", "ok"}, {"crash", "ok"}, {"mount", "ok"}, {"stat /e", "error 21"}, {"unlink /a%20b/z", "ok"}, {"rmdir /a%20b", "ok"},
		{"rmdir /", "error 25"}, {"list /", "ok"}, {"#list /", ""}, {"list / #", "error 40"},
	} {
		text = append(text, x[0])
		if x[1] != "" {
			want = append(want, x[1]+"\n")
		}
	}
	runs(t, strings.Join(text, "\n"), strings.Join(want, ""))
	for _, kind := range []string{"open", "close", "read", "write", "seek", "truncate", "unlink", "mkdir", "rmdir", "rename", "link", "stat", "list", "fsync", "sync",
		"tick", "rebuild", "stop", "crash", "mount", "kill", "corrupt"} {
		if !strings.Contains(strings.Join(text, "\n"), "\n"+kind) {
			t.Errorf("no %s", kind)
		}
	}
}

// P18.3: count tells what the world's disks have been asked.
func TestCount(t *testing.T) {
	w, _ := world.New(small)
	a := w.Do(api.Step{Kind: api.StepCount}).N
	w.Do(api.Step{Kind: api.StepMkdir, Path: "/d"})
	w.Do(api.Step{Kind: api.StepSync})
	b := w.Do(api.Step{Kind: api.StepCount}).N
	if b <= a {
		t.Fatalf("%d and %d", a, b)
	}
	runs(t, "count\nmkdir /d\nsync\ncount", fmt.Sprintf("ok %d\nok\nok\nok %d\n", a, b))
}

// P18.3: what lines are, which of them answer nothing, and which error 40; those change nothing.
func TestLinesOfScripts(t *testing.T) {
	for text, want := range map[string]string{
		"":                             "",
		"\n":                           "",
		"\n\n\n":                       "",
		"#":                            "",
		"#\n# mkdir /d\n##\n#\xff":     "",
		"#mkdir /d\nlist /":            "ok\n",
		"list /":                       "ok\n",
		"list /\n":                     "ok\n",
		"\nlist /\n\n":                 "ok\n",
		"list /\nlist /":               "ok\nok\n",
		"list /\n\n\nlist /\n":         "ok\nok\n",
		" ":                            "error 40\n",
		" \n ":                         "error 40\nerror 40\n",
		" #":                           "error 40\n",
		" list /":                      "error 40\n",
		"list / ":                      "error 40\n",
		"list /\r\nlist /\r\n":         "error 40\nerror 40\n",
		"\r":                           "error 40\n",
		"\r\n":                         "error 40\n",
		"\x00":                         "error 40\n",
		"list /\rlist /":               "error 40\n",
		"list /\vlist /\flist /":       "error 40\n",
		"list /\u2028list /":           "error 40\n",
		"nothing":                      "error 40\n",
		"# nothing\n\nnothing":         "error 40\n",
		"MKDIR /d\nmkdir /d/ \nlist /": "error 40\nerror 40\nok\n",
		"mkdir /d 0\nmkdir\nmkdir  /d\nmkdir /%64\nlist /": "error 40\nerror 40\nerror 40\nerror 40\nok\n",
		"crash" + strings.Repeat(" 0", 18) + "\nlist /":    "error 40\nok\n",
		"crash" + strings.Repeat(" 0", 17) + "\nlist /":    "ok\nerror 9\n",
		"mkdir /%23\nlist /#\nlist /":                      "ok\nerror 40\nok %23\n",
		"open x 7\nwrite 0 x\nstop -5\nkill 9":             "error 25\nerror 30\nok\nerror 1\n",
	} {
		runs(t, text, want)
	}
}

// P18.3: a script has MaxText bytes and MaxScript line ends at most; that is told ahead of what the world refuses.
func TestLongScripts(t *testing.T) {
	bad := small
	bad.Members = 2
	ends := strings.Repeat("\n", 4096)
	for _, x := range []struct {
		text, want string
	}{
		{ends, ""},
		{strings.Repeat("mkdir /d\n", 4096) + "stat /d", "ok\n" + strings.Repeat("error 20\n", 4095) + "ok 1 2 1 0\n"},
		{strings.Repeat("#", 65536), ""},
		{strings.Repeat("x", 65536), "error 40\n"},
		{strings.Repeat("#234567890123456789012345678901\n", 2047) + "#23456789012345678901234567\nlist", "error 40\n"},
		{"write 0 " + strings.Repeat("%20", (65536-8)/3), "error 30\n"},
	} {
		runs(t, x.text, x.want)
		if got, e := Run(bad, x.text); got != "" || e != api.ErrArg {
			t.Errorf("Run(%v, %.80q): error %d, %.80q", bad, x.text, e, got)
		}
	}
	for _, text := range []string{
		ends + "\n", strings.Repeat("\n", 65536), strings.Repeat("\n", 65537), "mkdir /d\n" + ends, ends + "mkdir /d\n", strings.Repeat("#", 65537), strings.Repeat("x", 65537),
		"mkdir /d\n" + strings.Repeat("#", 65536-8), strings.Repeat("mkdir /d\n", 8000), strings.Repeat(" ", 1<<24), strings.Repeat("x\n", 4097),
	} {
		for _, c := range []api.Conf{small, bad, {}} {
			if got, e := Run(c, text); got != "" || e != api.ErrFull {
				t.Errorf("Run(%v, %d bytes, %d line ends): error %d, %.80q", c, len(text), strings.Count(text, "\n"), e, got)
			}
		}
	}
	if text := "mkdir /d\n" + strings.Repeat("#", 65536-9); len(text) != 65536 {
		t.Error("the text has other bytes than it should")
	} else {
		runs(t, text, "ok\n")
	}
}

// P18.3: what world.New refuses.
func TestNoWorlds(t *testing.T) {
	for i, spoil := range []func(c *api.Conf){
		func(c *api.Conf) { *c = api.Conf{} }, func(c *api.Conf) { c.Members = 2 }, func(c *api.Conf) { c.Members = 17 }, func(c *api.Conf) { c.Members = math.MinInt },
		func(c *api.Conf) { c.Stripes = 0 }, func(c *api.Conf) { c.Stripes = 1025 }, func(c *api.Conf) { c.Logs = 0 }, func(c *api.Conf) { c.Logs = 9 },
		func(c *api.Conf) { c.Inodes = 1 }, func(c *api.Conf) { c.Inodes = 257 }, func(c *api.Conf) { c.Ring = 27 }, func(c *api.Conf) { c.Ring = math.MaxInt },
		func(c *api.Conf) { c.Cache = 0 }, func(c *api.Conf) { c.Cache = 1025 }, func(c *api.Conf) { c.Cache = -1 },
	} {
		c := small
		spoil(&c)
		_, want := world.New(c)
		for _, text := range []string{"", "list /", "nothing"} {
			if got, e := Run(c, text); got != "" || e != want || e == api.OK {
				t.Errorf("%d: Run(%v, %q): error %d, %q, not error %d", i, c, text, e, got, want)
			}
		}
	}
}

// P18.3, R5: each script has a world of its own.
func TestScriptsAreApart(t *testing.T) {
	for range 3 {
		runs(t, "mkdir /d\nsync\nkill 1\nlist /", "ok\nok\nok\nok d\n")
		runs(t, "list /\nkill 1\nkill 1\nstop 0\nsync", "ok\nok\nok\nok\nok\n")
	}
}
