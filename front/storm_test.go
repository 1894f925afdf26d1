package front

import (
	"fmt"
	"math/rand"
	"strings"
	"testing"

	"ashlar/api"
	"ashlar/world"
)

var (
	middle = api.Conf{Members: 4, Spare: true, Stripes: 60, Logs: 2, Inodes: 12, Ring: 30, Cache: 9}
	narrow = api.Conf{Members: 5, Stripes: 30, Logs: 3, Inodes: 9, Ring: 28, Cache: 1} // without a spare
)

// A teller makes steps by chance, and the lines that say them, reckoned from the document.
type teller struct {
	*rand.Rand
	disks int
}

func (r teller) one(list ...string) string { return list[r.Intn(len(list))] }

func (r teller) path() string {
	if r.Intn(30) == 0 {
		return r.one("", "/", "x", "//", "/..", "/a\x00", "/\xff", "/"+strings.Repeat("n", 28), strings.Repeat("/a", 17))
	}
	p := ""
	for range 1 + r.Intn(2)*r.Intn(2) {
		p += "/" + r.one("a", "b c", "d%", "\n", "e")
	}
	return p
}

func (r teller) fd() int { return r.Intn(4)*r.Intn(2) - r.Intn(40)/39 }

func (r teller) data(n int) string {
	b := make([]byte, n)
	for i := range b {
		b[i] = byte(r.Intn(256))
	}
	return string(b)
}

func (r teller) keep() ([][]int, string) {
	var keep [][]int
	line := ""
	for range r.Intn(r.disks + 2) {
		var list []int
		for k := range r.Intn(8) {
			if r.Intn(2) == 0 {
				list = append(list, k-r.Intn(20)/19)
			}
		}
		keep = append(keep, list)
		if len(list) == 0 {
			line += " -"
		} else {
			line += " " + strings.ReplaceAll(strings.Trim(fmt.Sprint(list), "[]"), " ", ",")
		}
	}
	return keep, line
}

// call is a step of the file system, and its line.
func (r teller) call() (api.Step, string) {
	p, to, fd := r.path(), r.path(), r.fd()
	switch r.Intn(15) {
	case 0, 1, 2:
		flags := []int{7, 7, 3, 1, 15, 31, 32, -1, 6}[r.Intn(9)]
		return api.Step{Kind: api.StepOpen, Path: p, N: flags}, fmt.Sprintf("open %s %d", wordOf(p), flags)
	case 3:
		return api.Step{Kind: api.StepClose, Fd: fd}, fmt.Sprintf("close %d", fd)
	case 4:
		n := r.Intn(1100) - 20
		return api.Step{Kind: api.StepRead, Fd: fd, N: n}, fmt.Sprintf("read %d %d", fd, n)
	case 5, 6:
		data := r.data(r.Intn(2) * r.Intn(300))
		return api.Step{Kind: api.StepWrite, Fd: fd, Data: data}, fmt.Sprintf("write %d %s", fd, wordOf(data))
	case 7:
		off, whence := r.Intn(700)-100, r.Intn(5)-1
		return api.Step{Kind: api.StepSeek, Fd: fd, N: off, At: whence}, fmt.Sprintf("seek %d %d %d", fd, off, whence)
	case 8:
		n := r.Intn(700) - 50
		return api.Step{Kind: api.StepTruncate, Fd: fd, N: n}, fmt.Sprintf("truncate %d %d", fd, n)
	case 9:
		return api.Step{Kind: api.StepUnlink, Path: p}, "unlink " + wordOf(p)
	case 10, 11:
		return api.Step{Kind: api.StepMkdir, Path: p}, "mkdir " + wordOf(p)
	case 12:
		return api.Step{Kind: api.StepRmdir, Path: p}, "rmdir " + wordOf(p)
	case 13:
		return api.Step{Kind: api.StepRename, Path: p, To: to}, "rename " + wordOf(p) + " " + wordOf(to)
	}
	return api.Step{Kind: api.StepLink, Path: p, To: to}, "link " + wordOf(p) + " " + wordOf(to)
}

// look is a step that tells what there is, or makes it sure.
func (r teller) look() (api.Step, string) {
	p, fd := r.one("/", r.path()), r.fd()
	switch r.Intn(4) {
	case 0:
		return api.Step{Kind: api.StepStat, Path: p}, "stat " + wordOf(p)
	case 1:
		return api.Step{Kind: api.StepList, Path: p}, "list " + wordOf(p)
	case 2:
		return api.Step{Kind: api.StepFsync, Fd: fd}, fmt.Sprintf("fsync %d", fd)
	}
	return api.Step{Kind: api.StepSync}, "sync"
}

// harm is a step of the keeper, or of what happens to the disks.
func (r teller) harm() (api.Step, string) {
	switch r.Intn(12) {
	case 0:
		n := r.Intn(60) - 5
		return api.Step{Kind: api.StepStop, N: n}, fmt.Sprintf("stop %d", n)
	case 1, 2:
		keep, line := r.keep()
		return api.Step{Kind: api.StepCrash, Keep: keep}, "crash" + line
	case 3, 4, 5:
		return api.Step{Kind: api.StepMount}, "mount"
	case 6:
		if r.Intn(5) > 0 {
			break
		}
		d := r.Intn(r.disks+2) - 1
		return api.Step{Kind: api.StepKill, N: d}, fmt.Sprintf("kill %d", d)
	case 7:
		d, sector, at, with := r.Intn(r.disks+2)-1, r.Intn(80)-2, r.Intn(132)-2, r.data(1-r.Intn(6)/5)
		return api.Step{Kind: api.StepCorrupt, N: d, At: sector, Fd: at, Data: with}, fmt.Sprintf("corrupt %d %d %d %s", d, sector, at, wordOf(with))
	case 8:
		return api.Step{Kind: api.StepRebuild}, "rebuild"
	case 9:
		return api.Step{Kind: api.StepCount}, "count"
	}
	return api.Step{Kind: api.StepTick}, "tick"
}

func (r teller) step() (api.Step, string) {
	switch r.Intn(5) {
	case 0:
		return r.harm()
	case 1:
		return r.look()
	}
	return r.call()
}

// told is the line of an answer, reckoned from the document.
func told(kind int, r api.Reply) string {
	switch {
	case r.Err != 0:
		return fmt.Sprintf("error %d\n", int(r.Err))
	case kind == api.StepOpen, kind == api.StepWrite, kind == api.StepSeek, kind == api.StepTick, kind == api.StepCount:
		return fmt.Sprintf("ok %d\n", r.N)
	case kind == api.StepRead:
		return fmt.Sprintf("ok %s\n", wordOf(r.Data))
	case kind == api.StepStat:
		return fmt.Sprintf("ok %d %d %d %d\n", r.Stat.Ino, r.Stat.Kind, r.Stat.Links, r.Stat.Size)
	case kind == api.StepList:
		line := "ok"
		for _, name := range r.List {
			line += " " + wordOf(name)
		}
		return line + "\n"
	}
	return "ok\n"
}

// P18.5, P18.2, P18.4: random scripts tell what their steps tell, one by one; steps are printed as their lines.
func TestScriptsTellWhatStepsTell(t *testing.T) {
	seen := map[string]int{}
	for seed := range int64(150) {
		c := []api.Conf{small, middle, narrow}[seed%3]
		w, e := world.New(c)
		if e != api.OK {
			t.Fatal(e)
		}
		r := teller{rand.New(rand.NewSource(seed)), c.Members}
		if c.Spare {
			r.disks++
		}
		var text, want strings.Builder
		for range 20 + r.Intn(300) {
			switch r.Intn(30) {
			case 0:
				text.WriteString(r.one("\n", "#\n", "# mkdir /a\n", "#\xff\n"))
				continue
			case 1:
				text.WriteString(r.one(" \n", "mkdir\n", "mkdir a  b\n", "list / \n", "stop 01\n", "stop -0\n", "crash 1,\n", "tick 0\n", "open /a 1000000000\n", "mkdir /%61\n", "\t#\n"))
				want.WriteString("error 40\n")
				continue
			}
			s, line := r.step()
			if got, e := Print(s); e != api.OK || got != line {
				t.Fatalf("Print(%+v): error %d, %q, not %q", s, e, got, line)
			}
			text.WriteString(line + "\n")
			answer := told(s.Kind, w.Do(s))
			want.WriteString(answer)
			seen[fmt.Sprint(s.Kind, " ", strings.HasPrefix(answer, "ok"))]++
		}
		script := strings.TrimSuffix(text.String(), r.one("", "\n"))
		if len(script) > api.MaxText {
			t.Fatalf("the seed %d makes %d bytes", seed, len(script))
		}
		if got, e := Run(c, script); e != api.OK || got != want.String() {
			t.Fatalf("the seed %d: error %d\n%s\ntells\n%s\nnot\n%s", seed, e, script, got, want.String())
		}
	}
	for kind := 1; kind <= api.StepCount; kind++ {
		if seen[fmt.Sprint(kind, " true")] < 10 {
			t.Errorf("the kind %d was done %d times", kind, seen[fmt.Sprint(kind, " true")])
		}
	}
}

// P1, R1: any text is run.
func TestAnyText(t *testing.T) {
	r := teller{rand.New(rand.NewSource(9)), 4}
	for range 150 {
		var text []byte
		for range r.Intn(60) {
			_, line := r.step()
			text = append(text, line...)
			text = append(text, r.one("\n", "\n", "\n", "\n\n", " ", "\x00", "#", "")...)
			if r.Intn(8) == 0 {
				text[r.Intn(len(text))] = byte(r.Intn(256))
			}
		}
		got, e := Run(small, string(text))
		if e != api.OK {
			t.Fatalf("Run(%q): error %d", text, e)
		}
		lines := 0
		for _, line := range strings.Split(string(text), "\n") {
			if line != "" && line[0] != '#' {
				lines++
			}
		}
		if n := strings.Count(got, "\n"); n != lines || got != "" && !strings.HasSuffix(got, "\n") {
			t.Fatalf("Run(%q): %d lines, not %d", text, n, lines)
		}
	}
}
