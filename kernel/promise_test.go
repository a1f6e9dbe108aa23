package kernel

import (
	"fmt"
	"reflect"
	"slices"
	"testing"

	"pagewright/api"
	"pagewright/frames"
	"pagewright/machine"
	"pagewright/paging"
)

func show(m api.Machine) string { return fmt.Sprintf("%+v", m) }

// isNothing tells whether m is what stands beside an error of Wrong.
func isNothing(m api.Machine) bool { return reflect.DeepEqual(m, api.Machine{}) }

func same(a, b api.Answer) bool { return a.Err == b.Err && a.N == b.N && slices.Equal(a.Data, b.Data) }

// tell is all that is told of m: what all pages of all processes have, and all files.
func tell(m api.Machine) string {
	var s string
	for p, space := range m.Spaces {
		s += fmt.Sprintln(p, space.Live, space.Areas)
		for _, a := range space.Areas {
			for n := a.From; n < a.To; n++ {
				x, isCopy, err := machine.View(m, p, n)
				s += fmt.Sprintln(n, x, isCopy, err)
			}
		}
	}
	for file := range m.Store.Files {
		s += fmt.Sprintln(machine.Bytes(m, file))
	}
	return s
}

// mayBeFull tells whether a call of that kind brings pages in, or writes files.
func mayBeFull(kind int) bool {
	return slices.Contains([]int{api.CallLoad, api.CallStore, api.CallWrite, api.CallTrunc, api.CallSync}, kind)
}

// check has c be called, and holds what comes of it against the promises.
func check(t *testing.T, name string, m api.Machine, c api.Call) (api.Machine, api.Answer) {
	t.Helper()
	name = fmt.Sprintf("%s: %+v", name, c)
	before, data := machine.Own(m), slices.Clone(c.Data)
	got, a := Do(m, c)
	if !reflect.DeepEqual(m, before) || !slices.Equal(c.Data, data) {
		t.Errorf("%s: what was handed in is %s, and was %s", name, show(m), show(before))
	}
	if err := machine.Wrong(m); err != api.OK {
		if !same(a, api.Answer{Err: err}) || !isNothing(got) {
			t.Errorf("%s: of a machine that is wrong, errno %d, there are %+v and %s", name, err, a, show(got))
		}
		return got, a
	}
	if err := machine.Wrong(got); err != api.OK {
		t.Errorf("%s: the machine is wrong then: %d: %s", name, err, show(got))
		return got, a
	}
	if len(got.Memory.Frames) != len(m.Memory.Frames) || len(got.Slots) != len(m.Slots) || got.Store.Count != m.Store.Count {
		t.Errorf("%s: it is of another size: %s", name, show(got))
	}
	checkAnswer(t, name, m, got, c, a)
	return got, a
}

// checkAnswer holds a, and got, which is m when c was called, against what flat memory answers, and is.
func checkAnswer(t *testing.T, name string, m, got api.Machine, c api.Call, a api.Answer) {
	t.Helper()
	is := flatOf(t, name, got)
	want := is.copied()
	changed := !reflect.DeepEqual(got, m)
	if changed {
		want = flatOf(t, name, m)
	}
	wanted := want.do(c)
	if a.Err != api.OK {
		if a.N != 0 || len(a.Data) != 0 {
			t.Errorf("%s: beside errno %d there are %d and %v", name, a.Err, a.N, a.Data)
		}
		if changed && tell(got) != tell(m) {
			t.Errorf("%s: errno %d, and there is told %s, and was %s", name, a.Err, tell(got), tell(m))
		}
	}
	if a.Err == api.ErrFull && (wanted.Err == api.OK || wanted.Err == api.ErrEnd) && mayBeFull(c.Kind) {
		checkFull(t, name, m, c)
		return
	}
	if !same(a, wanted) {
		t.Errorf("%s: it is %+v, not %+v", name, a, wanted)
	}
	checkPaging(t, name, m, got, c, a)
	if c.Kind == api.StepCrash {
		want.files = is.files
	}
	if a.Err == api.OK && !is.equal(want) {
		t.Errorf("%s: it is %+v, not %+v", name, is, want)
	}
}

// checkFull: there is no room in m for c.
func checkFull(t *testing.T, name string, m api.Machine, c api.Call) {
	t.Helper()
	free := frames.Free(m.Memory)
	switch {
	case c.Kind == api.CallTrunc:
		t.Errorf("%s: it is full, though a file without blocks is noughts", name)
	case c.Kind != api.CallSync && free >= max(2, (len(c.Data)+2*size-2)/size):
		t.Errorf("%s: it is full, and %d frames are free", name, free)
	}
}

// checkPaging: of calls that are those of package paging, got is what these answer.
func checkPaging(t *testing.T, name string, m, got api.Machine, c api.Call, a api.Answer) {
	t.Helper()
	var want api.Machine
	var err api.Errno
	switch c.Kind {
	case api.CallSync:
		want, err = paging.Sync(m, c.File)
	case api.StepEvict:
		want, _, err = paging.Evict(m)
	case api.StepClean:
		want, _, err = paging.Clean(m)
	case api.StepCrash:
		want, err = paging.Crash(m, c.N)
	default:
		return
	}
	if a.Err != err || err == api.OK && show(got) != show(want) {
		t.Errorf("%s: it is %s, errno %d, not %s, errno %d", name, show(got), a.Err, show(want), err)
	}
}

// checkTails: no file's page in a frame, and no block, has anything behind its file's end, though all that waits were lost, or some of it.
func checkTails(t *testing.T, name string, m api.Machine) {
	t.Helper()
	behind := func(x api.Page, file, index int) bool {
		end := m.Store.Files[file].Size - index*size
		return end < size && slices.ContainsFunc(x[max(end, 0):], func(b byte) bool { return b != 0 })
	}
	for _, f := range m.Memory.Frames {
		if f.File >= 0 && behind(f.Page, f.File, f.Index) {
			t.Errorf("%s: page %d of file %d is %v, behind its end too", name, f.Index, f.File, f.Page)
		}
	}
	for file, f := range m.Store.Files {
		for index, block := range f.Blocks {
			if block < 0 {
				continue
			}
			bad := behind(m.Disk.Blocks[block], file, index)
			for _, w := range m.Disk.Queue {
				bad = bad || w.At == block && behind(w.Page, file, index)
			}
			if bad {
				t.Errorf("%s: block %d, page %d of file %d, has bytes behind its end: %+v", name, block, index, file, m.Disk)
			}
		}
	}
}
