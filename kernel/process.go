package kernel

import (
	"pagewright/api"
	"pagewright/areas"
	"pagewright/change"
	"pagewright/fault"
	"pagewright/fork"
	"pagewright/page"
	"pagewright/table"
)

// noFile is File of an area that is of no file.
const noFile = -1

// mapPages has a process have an area more.
func mapPages(w *change.Machine, c api.Call) api.Answer {
	space, at := &w.Spaces[c.Proc], c.At
	if at < 0 {
		at = areas.Room(space.Areas, c.N)
	}
	// N is held against the pages behind at, not added first: the sum may be too large for an int.
	if at < 0 || c.N < 1 || c.N > api.Span-at || c.File < noFile {
		return refused(api.ErrRange)
	}
	if c.File >= len(w.Store.Files) {
		return refused(api.ErrNone)
	}
	l, err := areas.Map(space.Areas, api.Area{
		From: at, To: at + c.N,
		Read: c.Read, Write: c.Write, Shared: c.Shared,
		File: c.File, Base: c.Base,
	})
	if err != api.OK {
		return refused(err)
	}
	space.Areas = l
	return api.Answer{N: at}
}

// unmapPages has a process have nothing in some pages any more.
func unmapPages(w *change.Machine, c api.Call) api.Answer {
	l, err := areas.Unmap(w.Spaces[c.Proc].Areas, c.At, c.N)
	if err != api.OK {
		return refused(err)
	}
	for n := range c.N {
		w.Drop(change.Spot{Proc: c.Proc, Page: c.At + n})
	}
	w.Spaces[c.Proc].Areas = l
	return api.Answer{}
}

// protectPages has some pages of a process be read, and written, as the call tells.
func protectPages(w *change.Machine, c api.Call) api.Answer {
	space := &w.Spaces[c.Proc]
	l, err := areas.Protect(space.Areas, c.At, c.N, c.Read, c.Write)
	if err != api.OK {
		return refused(err)
	}
	// All entries are guarded, as it does not matter where: who may write is allowed to again when it next does.
	space.Areas, space.Table = l, table.Guard(space.Table)
	return api.Answer{}
}

// loadBytes answers bytes of a process's memory.
func loadBytes(w *change.Machine, c api.Call) api.Answer {
	k, err := use(w, c, c.N, false)
	if err != api.OK {
		return refused(err)
	}
	return api.Answer{N: c.N, Data: page.Get(w.Memory.Frames[k].Page, c.At%api.PageSize, c.N)}
}

// storeBytes has a process's memory have the call's bytes.
func storeBytes(w *change.Machine, c api.Call) api.Answer {
	k, err := use(w, c, len(c.Data), true)
	if err != api.OK {
		return refused(err)
	}
	f := &w.Memory.Frames[k]
	f.Page = page.Set(f.Page, c.At%api.PageSize, c.Data)
	return api.Answer{N: len(c.Data)}
}

// use has the page in which the call's n bytes lie be in a frame where they may be read, or, of write, written, and answers which one.
func use(w *change.Machine, c api.Call, n int, write bool) (int, api.Errno) {
	if !page.Within(c.At, n) {
		return 0, api.ErrForm
	}
	next, k, err := fault.Use(w.Machine, c.Proc, c.At/api.PageSize, write)
	if err != api.OK {
		return 0, err
	}
	w.Machine = next
	f := w.Memory.Frames[k]
	isCopy := f.File == noFile
	if end := f.Index*api.PageSize + c.At%api.PageSize + n; !isCopy && end > w.Store.Files[f.File].Size {
		return 0, api.ErrEnd
	}
	return k, api.OK
}

func forkProcess(w *change.Machine, c api.Call) api.Answer {
	next, child, err := fork.Fork(w.Machine, c.Proc)
	return become(w, next, child, err)
}

func exitProcess(w *change.Machine, c api.Call) api.Answer {
	next, err := fork.Exit(w.Machine, c.Proc)
	return become(w, next, 0, err)
}
