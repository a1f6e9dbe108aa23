package machine

import (
	"cmp"

	"pagewright/api"
	"pagewright/areas"
	"pagewright/disk"
	"pagewright/frames"
	"pagewright/slots"
	"pagewright/store"
	"pagewright/table"
)

// Wrong tells what is wrong with m: with its parts, or with how they go together.
func Wrong(m api.Machine) api.Errno {
	// Each of these leans on what those ahead have found right.
	checks := []func(api.Machine) api.Errno{wrongParts, wrongDisks, wrongSpaces, wrongCache, wrongPages, wrongCounts}
	for _, wrong := range checks {
		if err := wrong(m); err != api.OK {
			return err
		}
	}
	return api.OK
}

// wrongParts tells what is wrong with parts of m by themselves.
func wrongParts(m api.Machine) api.Errno {
	return cmp.Or(
		frames.Wrong(m.Memory),
		slots.Wrong(m.Slots),
		disk.Wrong(m.Swap),
		disk.Wrong(m.Disk),
		store.Wrong(m.Store),
	)
}

// wrongDisks tells whether the disks of m don't go with its slots and files: a block that no file has must be as good as new, as the next file that gets it has noughts there.
func wrongDisks(m api.Machine) api.Errno {
	if len(m.Swap.Blocks) != len(m.Slots) || len(m.Disk.Blocks) != m.Store.Count {
		return api.ErrFit
	}
	filed := filedBlocks(m.Store)
	for b, p := range m.Disk.Blocks {
		if !filed[b] && p != (api.Page{}) {
			return api.ErrFit
		}
	}
	for _, w := range m.Disk.Queue {
		if !filed[w.At] {
			return api.ErrFit
		}
	}
	return api.OK
}

// filedBlocks answers which blocks are a page's of a file of s.
func filedBlocks(s api.Store) [api.MaxBlocks]bool {
	var filed [api.MaxBlocks]bool
	for _, f := range s.Files {
		for _, b := range f.Blocks {
			if b >= 0 {
				filed[b] = true
			}
		}
	}
	return filed
}

// wrongSpaces tells what is wrong with the processes of m, each by itself.
func wrongSpaces(m api.Machine) api.Errno {
	if len(m.Spaces) > api.MaxProcs {
		return api.ErrMany
	}
	for _, s := range m.Spaces {
		if err := wrongSpace(s); err != api.OK {
			return err
		}
	}
	return api.OK
}

func wrongSpace(s api.Space) api.Errno {
	if err := cmp.Or(areas.Wrong(s.Areas).Err, table.Wrong(s.Table)); err != api.OK {
		return err
	}
	if !s.Live && (len(s.Areas) > 0 || len(table.Pages(s.Table)) > 0) {
		return api.ErrFit
	}
	return api.OK
}

// wrongCache tells what is wrong with the cache of m, place by place.
func wrongCache(m api.Machine) api.Errno {
	for i, c := range m.Cache {
		if err := wrongCached(m, c); err != api.OK {
			return err
		}
		if i > 0 && !isAhead(m.Cache[i-1], c) {
			return api.ErrForm
		}
	}
	return api.OK
}

func wrongCached(m api.Machine, c api.Cached) api.Errno {
	if !hasPage(m.Store, c.File, c.Index) || !below(c.Frame, len(m.Memory.Frames)) {
		return api.ErrRange
	}
	if f := m.Memory.Frames[c.Frame]; f.Refs == 0 || f.File != c.File || f.Index != c.Index {
		return api.ErrFit
	}
	return api.OK
}

// isAhead tells whether c has its place in the cache ahead of d.
func isAhead(c, d api.Cached) bool {
	return c.File < d.File || c.File == d.File && c.Index < d.Index
}

// wrongPages tells what is wrong with the pages of processes of m that have an entry.
func wrongPages(m api.Machine) api.Errno {
	for _, s := range m.Spaces {
		for _, n := range table.Pages(s.Table) {
			k := areas.Find(s.Areas, n)
			if k < 0 {
				return api.ErrNone
			}
			if err := wrongEntry(m, s.Areas[k], n, table.Get(s.Table, n)); err != api.OK {
				return err
			}
		}
	}
	return api.OK
}

// wrongEntry tells what is wrong with e as the entry of page n, in area a.
func wrongEntry(m api.Machine, a api.Area, n int, e api.Entry) api.Errno {
	if e.Kind == api.Swapped {
		if e.N >= len(m.Slots) || a.Shared {
			return api.ErrFit
		}
		return api.OK
	}
	if e.N >= len(m.Memory.Frames) {
		return api.ErrRange
	}
	f := m.Memory.Frames[e.N]
	if !mayHave(f, a, n) || e.Write && !mayWrite(f, a) {
		return api.ErrFit
	}
	return api.OK
}

// mayHave tells whether f may be the frame of page n, in area a: a file's page itself, or a copy, where that is not for all to see.
func mayHave(f api.Frame, a api.Area, n int) bool {
	if f.File < 0 {
		return !a.Shared
	}
	return f.File == a.File && f.Index == IndexOf(a, n)
}

// mayWrite tells whether f, the frame of a page in area a, may be written as it is: a file's page for all to see, a copy by the one who has it.
func mayWrite(f api.Frame, a api.Area) bool {
	if !a.Write {
		return false
	}
	if f.File < 0 {
		return f.Refs <= 1
	}
	return a.Shared
}

// wrongCounts tells whether a frame, or a slot, of m is not held as often as it says, or a frame that has a file's page is not in the cache.
func wrongCounts(m api.Machine) api.Errno {
	all, held := withIndex(m), holders(m)
	for k, f := range m.Memory.Frames {
		if f.Refs != held[api.Entry{Kind: api.Present, N: k}] || f.File >= 0 && !all.hasCached(k) {
			return api.ErrFit
		}
	}
	for k, n := range m.Slots {
		if n != held[api.Entry{Kind: api.Swapped, N: k}] {
			return api.ErrFit
		}
	}
	return api.OK
}

// holders answers how many entries, and places in the cache, have each frame and slot; these are told by an entry of nothing but kind and number, whether it may be written or not.
func holders(m api.Machine) map[api.Entry]int {
	held := map[api.Entry]int{}
	for _, c := range m.Cache {
		held[api.Entry{Kind: api.Present, N: c.Frame}]++
	}
	for _, s := range m.Spaces {
		for _, n := range table.Pages(s.Table) {
			e := table.Get(s.Table, n)
			held[api.Entry{Kind: e.Kind, N: e.N}]++
		}
	}
	return held
}

// hasCached tells whether the cache has frame k for the file's page that is in it: another frame may have the same page.
func (m indexed) hasCached(k int) bool {
	f := m.Memory.Frames[k]
	cached, ok := m.cached[place{f.File, f.Index}]
	return ok && cached == k
}
