package fork

import (
	"fmt"
	"reflect"
	"slices"
	"testing"

	"pagewright/api"
	"pagewright/frames"
	"pagewright/machine"
	"pagewright/slots"
	"pagewright/table"
)

func show(m api.Machine) string { return fmt.Sprintf("%+v", m) }

// isNothing tells whether m is what stands beside an error.
func isNothing(m api.Machine) bool { return reflect.DeepEqual(m, api.Machine{}) }

type seen struct {
	page   api.Page
	isCopy bool
	err    api.Errno
}

// views are what View tells of all pages of process p.
func views(m api.Machine, p int) [api.Span]seen {
	var l [api.Span]seen
	for n := range l {
		l[n].page, l[n].isCopy, l[n].err = machine.View(m, p, n)
	}
	return l
}

// told is what is told of all processes that there may be, and of all files.
type told struct {
	views [api.MaxProcs][api.Span]seen
	files string
}

func tell(m api.Machine) told {
	var all told
	for p := range all.views {
		all.views[p] = views(m, p)
	}
	for file := range m.Store.Files {
		all.files += fmt.Sprintln(machine.Bytes(m, file))
	}
	return all
}

func isLive(m api.Machine, p int) bool { return p >= 0 && p < len(m.Spaces) && m.Spaces[p].Live }

// lowest is the lowest number that none is Live of.
func lowest(m api.Machine) int {
	p := 0
	for isLive(m, p) {
		p++
	}
	return p
}

// refused is which error the chapter asks for of both calls.
func refused(m api.Machine, p int) api.Errno {
	if err := machine.Wrong(m); err != api.OK {
		return err
	}
	if !isLive(m, p) {
		return api.ErrNone
	}
	return api.OK
}

// checkFork has process p of m fork, and holds what comes of it against the promise.
func checkFork(t *testing.T, name string, m api.Machine, p int) (api.Machine, int, api.Errno) {
	t.Helper()
	before, want := show(m), refused(m, p)
	if want == api.OK && lowest(m) == api.MaxProcs {
		want = api.ErrMany
	}
	got, child, err := Fork(m, p)
	if show(m) != before {
		t.Errorf("%s: the machine that was handed in is %s, and was %s", name, show(m), before)
	}
	switch {
	case err != want:
		t.Errorf("%s: errno %d, not %d", name, err, want)
	case err != api.OK && (child != 0 || !isNothing(got)):
		t.Errorf("%s: beside errno %d there are process %d and %s", name, err, child, show(got))
	case err == api.OK:
		checkForked(t, name, m, got, p, child)
	}
	return got, child, err
}

// checkForked holds got, which is m when process p has forked, against the promise.
func checkForked(t *testing.T, name string, m, got api.Machine, p, child int) {
	t.Helper()
	if err := machine.Wrong(got); err != api.OK {
		t.Errorf("%s: the machine is wrong then: %d: %s", name, err, show(got))
		return
	}
	if child != lowest(m) || !isLive(got, child) {
		t.Errorf("%s: the child is number %d, not %d: %s", name, child, lowest(m), show(got))
		return
	}
	if !slices.Equal(got.Spaces[child].Areas, m.Spaces[p].Areas) {
		t.Errorf("%s: the child has areas %+v, not %+v", name, got.Spaces[child].Areas, m.Spaces[p].Areas)
	}
	if views(got, child) != views(m, p) {
		t.Errorf("%s: the child sees %v, not %v", name, views(got, child), views(m, p))
	}
	if is, was := frames.Free(got.Memory), frames.Free(m.Memory); is != was {
		t.Errorf("%s: %d frames are free, and %d were", name, is, was)
	}
	if is, was := slots.Free(got.Slots), slots.Free(m.Slots); is != was {
		t.Errorf("%s: %d slots are free, and %d were", name, is, was)
	}
	checkOthers(t, name, m, got, child)
}

// checkExit has process p of m go, and holds what comes of it against the promise.
func checkExit(t *testing.T, name string, m api.Machine, p int) (api.Machine, api.Errno) {
	t.Helper()
	before, want := show(m), refused(m, p)
	got, err := Exit(m, p)
	if show(m) != before {
		t.Errorf("%s: the machine that was handed in is %s, and was %s", name, show(m), before)
	}
	switch {
	case err != want:
		t.Errorf("%s: errno %d, not %d", name, err, want)
	case err != api.OK && !isNothing(got):
		t.Errorf("%s: beside errno %d there is %s", name, err, show(got))
	case err == api.OK:
		checkGone(t, name, m, got, p)
	}
	return got, err
}

// checkGone holds got, which is m when process p has gone, against the promise.
func checkGone(t *testing.T, name string, m, got api.Machine, p int) {
	t.Helper()
	if err := machine.Wrong(got); err != api.OK {
		t.Errorf("%s: the machine is wrong then: %d: %s", name, err, show(got))
		return
	}
	if isLive(got, p) || p < len(got.Spaces) && (len(got.Spaces[p].Areas) > 0 || len(table.Pages(got.Spaces[p].Table)) > 0) {
		t.Errorf("%s: process %d is %+v", name, p, got.Spaces[p])
	}
	checkOthers(t, name, m, got, p)
}

// checkOthers: but for process p, all that is told of got is what is told of m.
func checkOthers(t *testing.T, name string, m, got api.Machine, p int) {
	t.Helper()
	is, was := tell(got), tell(m)
	is.views[p], was.views[p] = [api.Span]seen{}, [api.Span]seen{}
	if is != was {
		t.Errorf("%s: of all else there is told %v, and was %v", name, is, was)
	}
	for q := range api.MaxProcs {
		if q == p {
			continue
		}
		if isLive(got, q) != isLive(m, q) {
			t.Errorf("%s: process %d is Live, %t", name, q, isLive(got, q))
		} else if isLive(m, q) && !slices.Equal(got.Spaces[q].Areas, m.Spaces[q].Areas) {
			t.Errorf("%s: process %d has areas %+v, and had %+v", name, q, got.Spaces[q].Areas, m.Spaces[q].Areas)
		}
	}
	if len(got.Store.Files) != len(m.Store.Files) {
		t.Errorf("%s: there are %d files, and were %d", name, len(got.Store.Files), len(m.Store.Files))
	}
}
