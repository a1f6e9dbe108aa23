package change

import (
	"slices"

	"pagewright/api"
	"pagewright/disk"
	"pagewright/frames"
	"pagewright/machine"
	"pagewright/page"
	"pagewright/slots"
	"pagewright/store"
)

// FreeFrame has one frame more be free, the first one that can be from the clock's hand on, and tells whether one is. All see what they saw, but for moving: pages that have nothing, and get a frame next.
func (m *Machine) FreeFrame(moving ...Spot) bool {
	// The first round leaves no frame Used, so each that is held comes by within two.
	for range 2 * len(m.Memory.Frames) {
		var k int
		m.Memory, k, _ = frames.Next(m.Memory)
		if k < 0 {
			return false
		}
		if m.empty(k, moving) {
			return true
		}
	}
	return false
}

// empty has frame k, which is held, be free, and tells whether it could be.
func (m *Machine) empty(k int, moving []Spot) bool {
	if m.Memory.Frames[k].File == noFile {
		return m.toSwap(k)
	}
	return m.toDisk(k, moving)
}

// toSwap has frame k be free, a copy, which goes to a slot with all who have it; false, if no slot is free.
func (m *Machine) toSwap(k int) bool {
	f := m.Memory.Frames[k]
	taken, slot, err := slots.Take(m.Slots, f.Refs)
	if err != api.OK {
		return false
	}
	m.Slots = taken
	m.Swap, _ = disk.Write(m.Swap, slot, f.Page)
	m.leave(k, api.Entry{Kind: api.Swapped, N: slot})
	return true
}

// toDisk has frame k be free, a file's page, which whoever has it finds on the disk then; false, if that would be another one.
func (m *Machine) toDisk(k int, moving []Spot) bool {
	f := m.Memory.Frames[k]
	if m.inFile(f) != f.Page && m.isSeen(k, moving) {
		return false
	}
	// Dirty alone doesn't tell: a right machine may have a frame that is not, and unlike the disk.
	stored := machine.Stored(m.Machine, f.File, f.Index) == m.inFile(f)
	if f.Dirty || !stored {
		if written := m.write(k); !written && !stored {
			return false
		}
	}
	m.uncache(k)
	return true
}

// Clean has frame k, a file's page, be written to its block, and not be Dirty any more; false, if it has none, and could get none.
func (m *Machine) Clean(k int) bool {
	if !m.write(k) {
		return false
	}
	m.Memory.Frames[k].Dirty = false
	return true
}

// write has the file's page in frame k be written to its block, and tells whether it has one, or could get one.
func (m *Machine) write(k int) bool {
	f := m.Memory.Frames[k]
	return m.writePage(m.inFile(f), f.File, f.Index)
}

// writePage has p be written to the block of page index of file, and tells whether that has one, or could get one.
func (m *Machine) writePage(p api.Page, file, index int) bool {
	files, block, err := store.Block(m.Store, file, index)
	if err != api.OK {
		return false
	}
	m.Store = files
	m.Disk, _ = disk.Write(m.Disk, block, p)
	return true
}

// uncache has frame k, a file's page, be free: whoever was in it has nothing any more.
func (m *Machine) uncache(k int) {
	f := m.Memory.Frames[k]
	at, _ := m.placeOf(f.File, f.Index)
	m.Cache = slices.Delete(m.Cache, at, at+1)
	m.leave(k, api.Entry{})
}

// leave has all who are in frame k have e instead, and the frame be free.
func (m *Machine) leave(k int, e api.Entry) {
	for _, s := range m.Holders(api.Present, k) {
		m.enter(s, e)
	}
	m.Memory, _ = frames.Hold(m.Memory, k, -m.Memory.Frames[k].Refs)
}

// inFile answers what f, a file's page, has up to the file's end: a frame may have more behind it, which the disk would not give back.
func (m *Machine) inFile(f api.Frame) api.Page {
	return page.Cut(f.Page, m.Store.Files[f.File].Size-f.Index*api.PageSize)
}

// isSeen tells whether somebody but moving sees frame k, a file's page: in the frame, or where there is no entry.
func (m *Machine) isSeen(k int, moving []Spot) bool {
	f := m.Memory.Frames[k]
	sees := func(s Spot, a api.Area) bool {
		if a.File != f.File || machine.IndexOf(a, s.Page) != f.Index || slices.Contains(moving, s) {
			return false
		}
		e := m.Entry(s)
		return e.Kind == api.None || e.Kind == api.Present && e.N == k
	}
	for p, space := range m.Spaces {
		for _, a := range space.Areas {
			for n := a.From; n < a.To; n++ {
				if sees(Spot{p, n}, a) {
					return true
				}
			}
		}
	}
	return false
}
