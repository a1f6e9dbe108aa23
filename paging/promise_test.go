package paging

import (
	"fmt"
	"reflect"
	"slices"
	"testing"

	"pagewright/api"
	"pagewright/disk"
	"pagewright/frames"
	"pagewright/machine"
	"pagewright/page"
	"pagewright/slots"
	"pagewright/store"
)

func show(m api.Machine) string { return fmt.Sprintf("%+v", m) }

// isNothing tells whether m is what stands beside an error.
func isNothing(m api.Machine) bool { return reflect.DeepEqual(m, api.Machine{}) }

// tell is all that is told of m: what all pages of all processes have, and all files.
func tell(m api.Machine) string {
	var s string
	for p := range api.MaxProcs {
		for n := range api.Span {
			s += fmt.Sprintln(machine.View(m, p, n))
		}
	}
	for file := range m.Store.Files {
		s += fmt.Sprintln(machine.Bytes(m, file))
	}
	return s
}

// isDirty tells whether frame f has a file's page, and is Dirty.
func isDirty(f api.Frame) bool { return f.Dirty && f.File >= 0 }

// dirty is how many Dirty frames of file m has, and how many of their pages have no block.
func dirty(m api.Machine, file int) (all, blockless int) {
	for _, f := range m.Memory.Frames {
		if isDirty(f) && f.File == file {
			all++
			if m.Store.Files[file].Blocks[f.Index] < 0 {
				blockless++
			}
		}
	}
	return all, blockless
}

// checkAsItWas: got is right, and nobody sees that it is not m.
func checkAsItWas(t *testing.T, name string, m, got api.Machine) {
	t.Helper()
	if err := machine.Wrong(got); err != api.OK {
		t.Errorf("%s: the machine is wrong then: %d: %s", name, err, show(got))
	}
	if is, was := tell(got), tell(m); is != was {
		t.Errorf("%s: there is told %s, and was %s", name, is, was)
	}
	if len(got.Memory.Frames) != len(m.Memory.Frames) || len(got.Slots) != len(m.Slots) || got.Store.Count != m.Store.Count || len(got.Store.Files) != len(m.Store.Files) {
		t.Errorf("%s: it is of another size: %s", name, show(got))
	}
	for p, s := range m.Spaces {
		if p >= len(got.Spaces) || got.Spaces[p].Live != s.Live || !slices.Equal(got.Spaces[p].Areas, s.Areas) {
			t.Errorf("%s: process %d is another one: %s", name, p, show(got))
		}
	}
}

// checkWritten: the page of frame f, a file's, is what waits last for got's disk, at its block, which it had, or which was free.
func checkWritten(t *testing.T, name string, m, got api.Machine, f api.Frame) {
	t.Helper()
	block := got.Store.Files[f.File].Blocks[f.Index]
	if had := m.Store.Files[f.File].Blocks[f.Index]; block < 0 || had >= 0 && had != block {
		t.Errorf("%s: page %d of file %d has block %d, and had %d", name, f.Index, f.File, block, had)
		return
	}
	want := api.Put{At: block, Page: page.Cut(f.Page, m.Store.Files[f.File].Size-f.Index*api.PageSize)}
	if q := got.Disk.Queue; len(q) == 0 || q[len(q)-1] != want || len(q) != min(len(m.Disk.Queue)+1, api.MaxQueue) {
		t.Errorf("%s: for the disk there waits %+v, and %+v did; not %+v", name, q, m.Disk.Queue, want)
	}
}

// checkEvict has a frame of m be free, and holds what comes of it against the promise.
func checkEvict(t *testing.T, name string, m api.Machine) (api.Machine, bool) {
	t.Helper()
	before := show(m)
	got, ok, err := Evict(m)
	if show(m) != before {
		t.Errorf("%s: the machine that was handed in is %s, and was %s", name, show(m), before)
	}
	if want := machine.Wrong(m); err != want {
		t.Errorf("%s: errno %d, not %d", name, err, want)
	}
	if err != api.OK {
		if ok || !isNothing(got) {
			t.Errorf("%s: beside errno %d there are %t and %s", name, err, ok, show(got))
		}
		return got, ok
	}
	checkAsItWas(t, name, m, got)
	more := frames.Free(got.Memory) - frames.Free(m.Memory)
	if more != 0 && more != 1 || ok != (more == 1) {
		t.Errorf("%s: %d frames more are free, told is %t", name, more, ok)
	}
	if !ok && slots.Free(m.Slots) > 0 && store.Left(m.Store) > 0 && frames.Free(m.Memory) < len(m.Memory.Frames) {
		t.Errorf("%s: a slot and a block are free, and no frame more is: %s", name, show(m))
	}
	if ok {
		checkLeft(t, name, m, got)
	}
	return got, ok
}

// checkLeft: what was in the frame that got has free, and m had not, is where it must be.
func checkLeft(t *testing.T, name string, m, got api.Machine) {
	t.Helper()
	k := 0
	for k < len(m.Memory.Frames) && (m.Memory.Frames[k].Refs == 0 || got.Memory.Frames[k].Refs > 0) {
		k++
	}
	if k == len(m.Memory.Frames) {
		t.Errorf("%s: no frame has become free: %s", name, show(got))
		return
	}
	for i, f := range m.Memory.Frames {
		f.Used = got.Memory.Frames[i].Used
		if i != k && f != got.Memory.Frames[i] {
			t.Errorf("%s: beside frame %d, which is free, frame %d is %+v, and was %+v", name, k, i, got.Memory.Frames[i], f)
		}
	}
	f := m.Memory.Frames[k]
	if isDirty(f) {
		checkWritten(t, name, m, got, f)
	}
	if f.File >= 0 {
		if slots.Free(got.Slots) != slots.Free(m.Slots) {
			t.Errorf("%s: a file's page has gone to a slot: %v, and was %v", name, got.Slots, m.Slots)
		}
		return
	}
	slot := 0
	for slot < len(m.Slots)-1 && m.Slots[slot] == got.Slots[slot] {
		slot++
	}
	if x, err := disk.Read(got.Swap, slot); x != f.Page || err != api.OK || m.Slots[slot] != 0 || got.Slots[slot] != f.Refs {
		t.Errorf("%s: slot %d, held %d times, reads %v, errno %d, and frame %d had %v", name, slot, got.Slots[slot], x, err, k, f)
	}
}

// checkClean has a frame of m be clean, and holds what comes of it against the promise.
func checkClean(t *testing.T, name string, m api.Machine) (api.Machine, bool) {
	t.Helper()
	before := show(m)
	got, ok, err := Clean(m)
	if show(m) != before {
		t.Errorf("%s: the machine that was handed in is %s, and was %s", name, show(m), before)
	}
	if want := machine.Wrong(m); err != want {
		t.Errorf("%s: errno %d, not %d", name, err, want)
	}
	if err != api.OK {
		if ok || !isNothing(got) {
			t.Errorf("%s: beside errno %d there are %t and %s", name, err, ok, show(got))
		}
		return got, ok
	}
	checkAsItWas(t, name, m, got)
	want := slices.ContainsFunc(m.Memory.Frames, func(f api.Frame) bool {
		return isDirty(f) && (m.Store.Files[f.File].Blocks[f.Index] >= 0 || store.Left(m.Store) > 0)
	})
	if ok != want {
		t.Errorf("%s: whether there was one is %t: %s", name, ok, show(m))
	}
	checkCleaned(t, name, m, got, ok)
	return got, ok
}

// checkCleaned: just one frame of got is not Dirty that was of m, if one is, and it is written; all other frames are as they were.
func checkCleaned(t *testing.T, name string, m, got api.Machine, ok bool) {
	t.Helper()
	var l []api.Frame
	for i, f := range m.Memory.Frames {
		if f == got.Memory.Frames[i] {
			continue
		}
		l = append(l, f)
		f.Dirty = false
		if f != got.Memory.Frames[i] {
			t.Errorf("%s: frame %d is %+v, and was %+v", name, i, got.Memory.Frames[i], f)
		}
	}
	switch {
	case !ok && len(l) > 0 || ok && (len(l) != 1 || !isDirty(l[0])):
		t.Errorf("%s: there was one, %t, and another one are %+v", name, ok, l)
	case ok:
		checkWritten(t, name, m, got, l[0])
	case !reflect.DeepEqual(got.Disk, m.Disk):
		t.Errorf("%s: there was none, and the disk is %+v, and was %+v", name, got.Disk, m.Disk)
	}
}

// checkSync has file of m be on the disk for good, and holds what comes of it against the promise.
func checkSync(t *testing.T, name string, m api.Machine, file int) (api.Machine, api.Errno) {
	t.Helper()
	before, want := show(m), machine.Wrong(m)
	if want == api.OK && (file < 0 || file >= len(m.Store.Files)) {
		want = api.ErrNone
	}
	if want == api.OK {
		if _, n := dirty(m, file); n > store.Left(m.Store) {
			want = api.ErrFull
		}
	}
	got, err := Sync(m, file)
	if show(m) != before {
		t.Errorf("%s: the machine that was handed in is %s, and was %s", name, show(m), before)
	}
	switch {
	case err != want:
		t.Errorf("%s: errno %d, not %d", name, err, want)
	case err != api.OK && !isNothing(got):
		t.Errorf("%s: beside errno %d there is %s", name, err, show(got))
	case err == api.OK:
		checkAsItWas(t, name, m, got)
		checkSynced(t, name, m, got, file)
	}
	return got, err
}

// checkSynced: of file no frame of got is Dirty, and what was waits no more, whatever becomes of memory.
func checkSynced(t *testing.T, name string, m, got api.Machine, file int) {
	t.Helper()
	if n, _ := dirty(got, file); n > 0 || len(got.Disk.Queue) > 0 {
		t.Errorf("%s: %d frames of file %d are Dirty, and there waits %+v", name, n, file, got.Disk.Queue)
	}
	for i, f := range m.Memory.Frames {
		if is := got.Memory.Frames[i]; is.Page != f.Page || is.Refs != f.Refs || is.File != f.File || is.Index != f.Index {
			t.Errorf("%s: frame %d is %+v, and was %+v", name, i, is, f)
		}
		if !isDirty(f) || f.File != file {
			continue
		}
		block, want := got.Store.Files[file].Blocks[f.Index], page.Cut(f.Page, m.Store.Files[file].Size-f.Index*api.PageSize)
		if block < 0 || got.Disk.Blocks[block] != want {
			t.Errorf("%s: page %d of file %d is not in block %d: %+v", name, f.Index, file, block, got.Disk.Blocks)
		}
	}
	flushed, _ := disk.Flush(m.Disk)
	for f, l := range m.Store.Files {
		for i, block := range l.Blocks {
			_, cached := slices.BinarySearchFunc(m.Cache, i, func(c api.Cached, i int) int {
				if c.File != f {
					return c.File - f
				}
				return c.Index - i
			})
			if block >= 0 && !cached && got.Disk.Blocks[block] != flushed.Blocks[block] {
				t.Errorf("%s: block %d is %v, not %v", name, block, got.Disk.Blocks[block], flushed.Blocks[block])
			}
		}
	}
}

// checkCrash has the power of m fail, and holds what comes of it against the promise.
func checkCrash(t *testing.T, name string, m api.Machine, bits int) (api.Machine, api.Errno) {
	t.Helper()
	before, wrong := show(m), machine.Wrong(m)
	got, err := Crash(m, bits)
	if show(m) != before {
		t.Errorf("%s: the machine that was handed in is %s, and was %s", name, show(m), before)
	}
	if err != wrong {
		t.Errorf("%s: errno %d, not %d", name, err, wrong)
	}
	if err != api.OK {
		if !isNothing(got) {
			t.Errorf("%s: beside errno %d there is %s", name, err, show(got))
		}
		return got, err
	}
	if err := machine.Wrong(got); err != api.OK {
		t.Errorf("%s: the machine is wrong then: %d: %s", name, err, show(got))
	}
	want, _ := machine.New(api.Config{Frames: len(m.Memory.Frames), Slots: len(m.Slots), Blocks: len(m.Disk.Blocks)})
	want.Disk, _ = disk.Crash(m.Disk, bits)
	want.Store = m.Store
	if show(got) != show(want) {
		t.Errorf("%s: what is left is %s, not %s", name, show(got), show(want))
	}
	return got, err
}
