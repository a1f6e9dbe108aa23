package change

import (
	"slices"

	"pagewright/api"
	"pagewright/disk"
	"pagewright/machine"
	"pagewright/page"
	"pagewright/store"
)

// Resize has file have n bytes, as many as a file may have: the first ones that it has, then noughts. Who is in a page behind its end, but for a copy, has nothing any more.
func (m *Machine) Resize(file, n int) {
	f := m.Store.Files[file]
	kept := min(n, f.Size)
	m.cut(file, kept)
	for index := page.Count(kept); index < len(f.Blocks); index++ {
		m.lose(file, index)
	}
	m.Store, _ = store.Size(m.Store, file, n)
}

// Put has page index of file have b from its byte at on: in its frame, or, if it is in none, and none can be free, in its block. ErrFull, if that can't be either.
func (m *Machine) Put(file, index, at int, b []byte) api.Errno {
	k, ok := m.Cached(file, index)
	if !ok {
		var err api.Errno
		p := machine.Stored(m.Machine, file, index)
		k, err = m.Fetch(p, file, index)
		if err != api.OK {
			return m.putOnDisk(page.Set(p, at, b), file, index)
		}
	}
	f := &m.Memory.Frames[k]
	f.Page = page.Set(f.Page, at, b)
	f.Used, f.Dirty = true, true
	return api.OK
}

// putOnDisk has page index of file, which is in no frame, be p; ErrFull, if it has no block, and could get none.
func (m *Machine) putOnDisk(p api.Page, file, index int) api.Errno {
	if !m.writePage(p, file, index) {
		return api.ErrFull
	}
	return api.OK
}

// cut has noughts be from byte size of file on in the page in which it ends then: in its frame, and on the disk.
func (m *Machine) cut(file, size int) {
	index, at := size/api.PageSize, size%api.PageSize
	if at == 0 {
		// It ends where a page does.
		return
	}
	if k, ok := m.Cached(file, index); ok {
		f := &m.Memory.Frames[k]
		f.Page = page.Cut(f.Page, at)
	}
	if block := m.Store.Files[file].Blocks[index]; block >= 0 && m.hasBytes(block, at) {
		p, _ := disk.Read(m.Disk, block)
		m.Disk, _ = disk.Write(m.Disk, block, page.Cut(p, at))
		// If that were lost in a crash, the bytes would be back in a file that has got longer.
		m.Disk, _ = disk.Flush(m.Disk)
	}
}

// hasBytes tells whether block has, or may have behind a crash, other than noughts from its byte at on.
func (m *Machine) hasBytes(block, at int) bool {
	has := func(p api.Page) bool { return p != page.Cut(p, at) }
	waits := func(w api.Put) bool { return w.At == block && has(w.Page) }
	return has(m.Disk.Blocks[block]) || slices.ContainsFunc(m.Disk.Queue, waits)
}

// lose has page index of file be in no frame, and noughts on the disk, as the next page is that gets its block.
func (m *Machine) lose(file, index int) {
	if k, ok := m.Cached(file, index); ok {
		m.uncache(k)
	}
	if block := m.Store.Files[file].Blocks[index]; block >= 0 {
		m.Disk, _ = disk.Trim(m.Disk, block)
	}
}
