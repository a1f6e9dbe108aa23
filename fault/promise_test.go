package fault

import (
	"fmt"
	"reflect"
	"slices"
	"testing"

	"pagewright/api"
	"pagewright/areas"
	"pagewright/frames"
	"pagewright/machine"
	"pagewright/slots"
	"pagewright/store"
	"pagewright/table"
)

func show(m api.Machine) string { return fmt.Sprintf("%+v", m) }

// isNothing tells whether m is what stands beside an error.
func isNothing(m api.Machine) bool { return reflect.DeepEqual(m, api.Machine{}) }

type seen struct {
	page   api.Page
	isCopy bool
	err    api.Errno
}

// all is what is told of a machine: of all pages of all processes, and of all files.
type all struct {
	views map[[2]int]seen
	files [][]byte
}

func told(m api.Machine) all {
	a := all{views: map[[2]int]seen{}}
	for p := range m.Spaces {
		for n := range api.Span {
			if areas.Find(m.Spaces[p].Areas, n) >= 0 {
				x, isCopy, err := machine.View(m, p, n)
				a.views[[2]int{p, n}] = seen{x, isCopy, err}
			}
		}
	}
	for file := range m.Store.Files {
		b, _ := machine.Bytes(m, file)
		a.files = append(a.files, b)
	}
	return a
}

// indexOf is which page of its file page n is in process p's area.
func indexOf(m api.Machine, p, n int) (file, index int) {
	a := m.Spaces[p].Areas[areas.Find(m.Spaces[p].Areas, n)]
	return a.File, a.Base + n - a.From
}

// seesFrame tells whether page n of process p is the file's page that is in frame k.
func seesFrame(m api.Machine, p, n, k int) bool {
	f := m.Memory.Frames[k]
	file, index := indexOf(m, p, n)
	_, isCopy, err := machine.View(m, p, n)
	return err == api.OK && !isCopy && f.File == file && f.Index == index
}

// refused is which error the chapter asks for, but for ErrFull.
func refused(m api.Machine, p, n int, write bool) api.Errno {
	if err := machine.Wrong(m); err != api.OK {
		return err
	}
	if p < 0 || p >= len(m.Spaces) || !m.Spaces[p].Live || areas.Find(m.Spaces[p].Areas, n) < 0 {
		return api.ErrNone
	}
	a := m.Spaces[p].Areas[areas.Find(m.Spaces[p].Areas, n)]
	if write && !a.Write || !write && !a.Read {
		return api.ErrMay
	}
	_, _, err := machine.View(m, p, n)
	return err
}

// check uses page n of process p of m, and holds what comes of it against the promise.
func check(t *testing.T, name string, m api.Machine, p, n int, write bool) (api.Machine, int, api.Errno) {
	t.Helper()
	before, want := show(m), refused(m, p, n, write)
	got, k, err := Use(m, p, n, write)
	if show(m) != before {
		t.Errorf("%s: the machine that was handed in is %s, and was %s", name, show(m), before)
	}
	switch {
	case err != api.OK && (k != 0 || !isNothing(got)):
		t.Errorf("%s: beside errno %d there are frame %d and %s", name, err, k, show(got))
	case want != api.OK && err != want:
		t.Errorf("%s: errno %d, not %d", name, err, want)
	case want == api.OK && err == api.ErrFull:
		if why := roomIn(m, p, n, write); why != "" {
			t.Errorf("%s: there is room, %s, in %s", name, why, before)
		}
	case err != want:
		t.Errorf("%s: errno %d, not %d", name, err, want)
	case err == api.OK:
		checkUsed(t, name, m, got, p, n, write, k)
	}
	return got, k, err
}

// checkUsed holds got, which is m when page n of process p was used, against the promise.
func checkUsed(t *testing.T, name string, m, got api.Machine, p, n int, write bool, k int) {
	t.Helper()
	if err := machine.Wrong(got); err != api.OK {
		t.Errorf("%s: the machine is wrong then: %d: %s", name, err, show(got))
		return
	}
	e := table.Get(got.Spaces[p].Table, n)
	if e.Kind != api.Present || e.N != k || write && !e.Write {
		t.Errorf("%s: its entry is %+v, and Use tells frame %d", name, e, k)
		return
	}
	f, a := got.Memory.Frames[k], m.Spaces[p].Areas[areas.Find(m.Spaces[p].Areas, n)]
	was, is := told(m), told(got)
	this := [2]int{p, n}
	if f.Page != was.views[this].page || is.views[this].page != f.Page {
		t.Errorf("%s: its frame has %v, and it was %v", name, f.Page, was.views[this])
	}
	if write && is.views[this].isCopy == a.Shared || write && a.Shared && !f.Dirty {
		t.Errorf("%s: it is written, shared %t, and in %+v", name, a.Shared, f)
	}
	// Who only reads a file's page goes on seeing the file.
	if !write && a.File >= 0 && is.views[this] != was.views[this] {
		t.Errorf("%s: it is read, and is %v, and was %v", name, is.views[this], was.views[this])
	}
	delete(was.views, this)
	delete(is.views, this)
	if !reflect.DeepEqual(is, was) {
		t.Errorf("%s: of all else there is told %v, and was %v", name, is, was)
	}
	for p, s := range got.Spaces {
		if s.Live != m.Spaces[p].Live || !slices.Equal(s.Areas, m.Spaces[p].Areas) {
			t.Errorf("%s: process %d is %+v, and was %+v", name, p, s, m.Spaces[p])
		}
	}
	for file, f := range got.Store.Files {
		if f.Size != m.Store.Files[file].Size {
			t.Errorf("%s: file %d has %d bytes, and had %d", name, file, f.Size, m.Store.Files[file].Size)
		}
	}
}

// roomIn tells where in m there is room for page n of process p; nothing, if there is none.
func roomIn(m api.Machine, p, n int, write bool) string {
	if frames.Free(m.Memory) > 0 {
		return "a free frame"
	}
	e := table.Get(m.Spaces[p].Table, n)
	slot := slots.Free(m.Slots) > 0 || e.Kind == api.Swapped && (!write || m.Slots[e.N] == 1)
	for k, f := range m.Memory.Frames {
		if f.File < 0 {
			if slot {
				return fmt.Sprint("a slot for frame ", k)
			}
			continue
		}
		file := m.Store.Files[f.File]
		cut := f.Page
		for i := range cut {
			if f.Index*8+i >= file.Size {
				cut[i] = 0
			}
		}
		pinned := false
		for spot := range told(m).views {
			this := spot == [2]int{p, n}
			pinned = pinned || cut != f.Page && !this && seesFrame(m, spot[0], spot[1], k)
		}
		block := file.Blocks[f.Index] >= 0 || store.Left(m.Store) > 0
		if !pinned && (block || cut == api.Page{}) {
			return fmt.Sprint("a block for frame ", k)
		}
	}
	return ""
}
