package world

import "ashlar/api"

// Do does a step.
func (w *World) Do(s api.Step) api.Reply {
	if w.isNone() {
		return told(api.ErrClosed)
	}
	if do := stepsOfDisks()[s.Kind]; do != nil {
		return do(w, s)
	}
	do := stepsOfSite()[s.Kind]
	if do == nil {
		return told(api.ErrArg)
	}
	if e := w.refusal(); e != api.OK {
		return told(e)
	}
	return do(w.site, s)
}

// stepsOfSite are those of what is mounted, by their kinds.
func stepsOfSite() map[int]func(m *site, s api.Step) api.Reply {
	return map[int]func(m *site, s api.Step) api.Reply{
		api.StepOpen:     func(m *site, s api.Step) api.Reply { return number(m.Open(s.Path, s.N)) },
		api.StepClose:    func(m *site, s api.Step) api.Reply { return told(m.Close(s.Fd)) },
		api.StepRead:     func(m *site, s api.Step) api.Reply { return text(m.Read(s.Fd, s.N)) },
		api.StepWrite:    func(m *site, s api.Step) api.Reply { return number(m.Write(s.Fd, []byte(s.Data))) },
		api.StepSeek:     func(m *site, s api.Step) api.Reply { return number(m.Seek(s.Fd, s.N, s.At)) },
		api.StepTruncate: func(m *site, s api.Step) api.Reply { return told(m.Truncate(s.Fd, s.N)) },
		api.StepUnlink:   func(m *site, s api.Step) api.Reply { return told(m.Unlink(s.Path)) },
		api.StepMkdir:    func(m *site, s api.Step) api.Reply { return told(m.Mkdir(s.Path)) },
		api.StepRmdir:    func(m *site, s api.Step) api.Reply { return told(m.Rmdir(s.Path)) },
		api.StepRename:   func(m *site, s api.Step) api.Reply { return told(m.Rename(s.Path, s.To)) },
		api.StepLink:     func(m *site, s api.Step) api.Reply { return told(m.Link(s.Path, s.To)) },
		api.StepStat:     func(m *site, s api.Step) api.Reply { return stat(m.Stat(s.Path)) },
		api.StepList:     func(m *site, s api.Step) api.Reply { return list(m.List(s.Path)) },
		api.StepFsync:    func(m *site, s api.Step) api.Reply { return told(m.Fsync(s.Fd)) },
		api.StepSync:     func(m *site, _ api.Step) api.Reply { return told(m.Sync()) },
		api.StepTick:     func(m *site, _ api.Step) api.Reply { return number(m.keeper.Tick()) },
		api.StepRebuild:  func(m *site, _ api.Step) api.Reply { return told(m.keeper.Begin()) },
	}
}

// stepsOfDisks are those that need nothing that is mounted, by their kinds.
func stepsOfDisks() map[int]func(w *World, s api.Step) api.Reply {
	return map[int]func(w *World, s api.Step) api.Reply{
		api.StepStop: func(w *World, s api.Step) api.Reply {
			w.disks.Stop(s.N)
			return told(api.OK)
		},
		api.StepCrash: func(w *World, s api.Step) api.Reply {
			w.crash(s.Keep)
			return told(api.OK)
		},
		api.StepMount:   func(w *World, _ api.Step) api.Reply { return told(w.mount()) },
		api.StepKill:    func(w *World, s api.Step) api.Reply { return told(w.disks.Kill(s.N)) },
		api.StepCorrupt: func(w *World, s api.Step) api.Reply { return told(w.corrupt(s)) },
		api.StepCount:   func(w *World, _ api.Step) api.Reply { return number(w.disks.Count(), api.OK) },
	}
}

// corrupt turns a byte by the one that the step has.
func (w *World) corrupt(s api.Step) api.Errno {
	if len(s.Data) != 1 {
		return api.ErrArg
	}
	return w.disks.Corrupt(s.N, s.At, s.Fd, s.Data[0])
}

// told is the answer of a step that tells nothing else.
func told(e api.Errno) api.Reply {
	return api.Reply{Err: e}
}

func number(n int, e api.Errno) api.Reply {
	return api.Reply{Err: e, N: n}
}

func text(b []byte, e api.Errno) api.Reply {
	return api.Reply{Err: e, N: len(b), Data: string(b)}
}

func list(names []string, e api.Errno) api.Reply {
	return api.Reply{Err: e, List: names}
}

func stat(x api.Stat, e api.Errno) api.Reply {
	return api.Reply{Err: e, Stat: x}
}
