package machine

import (
	"slices"

	"pagewright/api"
	"pagewright/areas"
	"pagewright/disk"
	"pagewright/frames"
	"pagewright/slots"
	"pagewright/store"
	"pagewright/table"
)

// numbersOf are the numbers of m's lists, each where it stands.
func numbersOf(m *api.Machine) []*int {
	l := []*int{&m.Memory.Hand, &m.Store.Count}
	for i := range m.Memory.Frames {
		f := &m.Memory.Frames[i]
		l = append(l, &f.Refs, &f.File, &f.Index)
	}
	for i := range m.Slots {
		l = append(l, &m.Slots[i])
	}
	for _, d := range []*api.Disk{&m.Swap, &m.Disk} {
		for i := range d.Queue {
			l = append(l, &d.Queue[i].At)
		}
	}
	for i := range m.Store.Files {
		l = append(l, &m.Store.Files[i].Size)
		for k := range m.Store.Files[i].Blocks {
			l = append(l, &m.Store.Files[i].Blocks[k])
		}
	}
	for i := range m.Cache {
		l = append(l, &m.Cache[i].File, &m.Cache[i].Index, &m.Cache[i].Frame)
	}
	for i := range m.Spaces {
		for k := range m.Spaces[i].Areas {
			a := &m.Spaces[i].Areas[k]
			l = append(l, &a.From, &a.To, &a.File, &a.Base)
		}
		for _, half := range m.Spaces[i].Table {
			for k := range half {
				if half[k].Kind != api.None {
					l = append(l, &half[k].Kind, &half[k].N)
				}
			}
		}
	}
	return l
}

// clause is one thing that the chapter says is wrong, and by which errno it is told.
type clause struct {
	err   api.Errno
	holds bool
}

// first is the errno of the first clause that holds.
func first(l []clause) api.Errno {
	if at := slices.IndexFunc(l, func(c clause) bool { return c.holds }); at >= 0 {
		return l[at].err
	}
	return api.OK
}

// tell is H2, sentence by sentence, as the chapter has it: nothing is counted or kept, all is sought anew.
func tell(m api.Machine) api.Errno {
	for _, sentence := range []func(api.Machine) api.Errno{tellParts, tellDisks, tellSpaces, tellCache, tellPages, tellLast} {
		if err := sentence(m); err != api.OK {
			return err
		}
	}
	return api.OK
}

func tellParts(m api.Machine) api.Errno {
	for _, err := range []api.Errno{frames.Wrong(m.Memory), slots.Wrong(m.Slots), disk.Wrong(m.Swap), disk.Wrong(m.Disk), store.Wrong(m.Store)} {
		if err != api.OK {
			return err
		}
	}
	return api.OK
}

func tellDisks(m api.Machine) api.Errno {
	l := []clause{
		{api.ErrFit, len(m.Swap.Blocks) != len(m.Slots)},
		{api.ErrFit, len(m.Disk.Blocks) != m.Store.Count},
	}
	for b, p := range m.Disk.Blocks {
		had := slices.ContainsFunc(m.Store.Files, func(f api.File) bool { return slices.Contains(f.Blocks, b) })
		waits := slices.ContainsFunc(m.Disk.Queue, func(w api.Put) bool { return w.At == b })
		l = append(l, clause{api.ErrFit, !had && p != api.Page{}}, clause{api.ErrFit, !had && waits})
	}
	return first(l)
}

func tellSpaces(m api.Machine) api.Errno {
	l := []clause{{api.ErrMany, len(m.Spaces) > 4}}
	for _, s := range m.Spaces {
		fault, err := areas.Wrong(s.Areas), table.Wrong(s.Table)
		l = append(l, clause{fault.Err, fault.Err != api.OK}, clause{err, err != api.OK},
			clause{api.ErrFit, !s.Live && len(s.Areas) > 0}, clause{api.ErrFit, !s.Live && len(table.Pages(s.Table)) > 0})
	}
	return first(l)
}

func tellCache(m api.Machine) api.Errno {
	var l []clause
	for i, c := range m.Cache {
		noFile := c.File < 0 || c.File >= len(m.Store.Files)
		noPage := noFile || c.Index < 0 || c.Index*8 >= m.Store.Files[c.File].Size
		noFrame := c.Frame < 0 || c.Frame >= len(m.Memory.Frames)
		var f api.Frame
		if !noFrame {
			f = m.Memory.Frames[c.Frame]
		}
		ahead := api.Cached{File: -1}
		if i > 0 {
			ahead = m.Cache[i-1]
		}
		l = append(l, clause{api.ErrRange, noFile}, clause{api.ErrRange, noPage}, clause{api.ErrRange, noFrame},
			clause{api.ErrFit, f.Refs == 0}, clause{api.ErrFit, f.File != c.File}, clause{api.ErrFit, f.Index != c.Index},
			clause{api.ErrForm, ahead.File > c.File}, clause{api.ErrForm, ahead.File == c.File && ahead.Index >= c.Index})
	}
	return first(l)
}

func tellPages(m api.Machine) api.Errno {
	for _, s := range m.Spaces {
		for n := range 64 {
			e := table.Get(s.Table, n)
			if e.Kind == api.None {
				continue
			}
			at := slices.IndexFunc(s.Areas, func(a api.Area) bool { return n >= a.From && n < a.To })
			if at < 0 {
				return api.ErrNone
			}
			if err := tellEntry(m, s.Areas[at], n, e); err != api.OK {
				return err
			}
		}
	}
	return api.OK
}

func tellEntry(m api.Machine, a api.Area, n int, e api.Entry) api.Errno {
	if e.Kind == api.Swapped {
		return first([]clause{{api.ErrFit, e.N >= len(m.Slots)}, {api.ErrFit, a.Shared}})
	}
	if e.N >= len(m.Memory.Frames) {
		return api.ErrRange
	}
	f := m.Memory.Frames[e.N]
	has := f.File != -1
	return first([]clause{
		{api.ErrFit, has && f.File != a.File},
		{api.ErrFit, has && n-a.From+a.Base != f.Index},
		{api.ErrFit, !has && a.Shared},
		{api.ErrFit, e.Write && !a.Write},
		{api.ErrFit, e.Write && has && f.File == a.File && !a.Shared},
		{api.ErrFit, e.Write && !has && f.Refs > 1},
	})
}

func tellLast(m api.Machine) api.Errno {
	entries := func(kind, k int) int {
		n := 0
		for _, s := range m.Spaces {
			n += len(table.Find(s.Table, kind, k))
		}
		return n
	}
	var l []clause
	for k, f := range m.Memory.Frames {
		cached := 0
		for _, c := range m.Cache {
			if c.Frame == k {
				cached++
			}
		}
		l = append(l, clause{api.ErrFit, f.Refs != entries(api.Present, k)+cached}, clause{api.ErrFit, f.File != -1 && cached == 0})
	}
	for k, n := range m.Slots {
		l = append(l, clause{api.ErrFit, n != entries(api.Swapped, k)})
	}
	return first(l)
}
