package fork

import (
	"fmt"
	"slices"
	"testing"

	"pagewright/api"
	"pagewright/machine"
)

// What holds everywhere.

// lists answers m with each of its lists handed through the functions of do, the lists within lists first.
func lists(m api.Machine, do doer) api.Machine {
	m.Store.Files = slices.Clone(m.Store.Files)
	for i, f := range m.Store.Files {
		m.Store.Files[i].Blocks = do.ints(f.Blocks)
	}
	m.Spaces = slices.Clone(m.Spaces)
	for i, s := range m.Spaces {
		m.Spaces[i].Areas = do.areas(s.Areas)
		for h, half := range s.Table {
			m.Spaces[i].Table[h] = do.entries(half)
		}
	}
	m.Memory.Frames = do.frames(m.Memory.Frames)
	m.Slots = do.ints(m.Slots)
	m.Swap = api.Disk{Blocks: do.pages(m.Swap.Blocks), Queue: do.puts(m.Swap.Queue)}
	m.Disk = api.Disk{Blocks: do.pages(m.Disk.Blocks), Queue: do.puts(m.Disk.Queue)}
	m.Store.Files = do.files(m.Store.Files)
	m.Cache = do.cache(m.Cache)
	m.Spaces = do.spaces(m.Spaces)
	return m
}

type doer struct {
	frames  func([]api.Frame) []api.Frame
	ints    func([]int) []int
	pages   func([]api.Page) []api.Page
	puts    func([]api.Put) []api.Put
	files   func([]api.File) []api.File
	cache   func([]api.Cached) []api.Cached
	spaces  func([]api.Space) []api.Space
	areas   func([]api.Area) []api.Area
	entries func([]api.Entry) []api.Entry
}

// scrap is l with spare room behind it, full of x.
func scrap[T any](x T) func(l []T) []T {
	return func(l []T) []T { return append(slices.Clone(l), slices.Repeat([]T{x}, 5)...)[:len(l)] }
}

// roomy is m with spare room behind each of its lists, in which stands what would be wrong.
func roomy(m api.Machine) api.Machine {
	return lists(m, doer{
		scrap(api.Frame{Refs: -1, File: 9}), scrap(-7), scrap(api.Page{99}), scrap(api.Put{At: -1}), scrap(api.File{Size: -1}),
		scrap(api.Cached{File: -1}), scrap(api.Space{Live: true}), scrap(api.Area{From: -1}), scrap(api.Entry{Kind: 7}),
	})
}

func toEnd[T any](l []T) []T { return l[:cap(l)] }

// whole is m with the spare room behind its lists; what is within spare room is left.
func whole(m api.Machine) api.Machine {
	return lists(m, doer{toEnd[api.Frame], toEnd[int], toEnd[api.Page], toEnd[api.Put], toEnd[api.File], toEnd[api.Cached], toEnd[api.Space], toEnd[api.Area], toEnd[api.Entry]})
}

func fill[T any](x T) func(l []T) []T {
	return func(l []T) []T {
		for i := range l[:cap(l)] {
			l[:cap(l)][i] = x
		}
		return l
	}
}

// scribble changes all of m, the spare room behind its lists too.
func scribble(m api.Machine) {
	files, spaces := m.Store.Files, m.Spaces
	lists(m, doer{
		fill(api.Frame{Refs: 77}), fill(77), fill(api.Page{77}), fill(api.Put{At: 77}), fill(api.File{Size: 77}),
		fill(api.Cached{File: 77}), fill(api.Space{}), fill(api.Area{From: 77}), fill(api.Entry{Kind: 77}),
	})
	// lists has walked through copies of these two.
	fill(api.File{Size: 77})(files)
	fill(api.Space{})(spaces)
}

// call is Fork, or Exit, of a process of a machine.
type call struct {
	name string
	m    api.Machine
	do   func(m api.Machine) (api.Machine, int, api.Errno)
}

// calls are those of all processes of some machines, of some that are not there too.
func calls() []call {
	forked, _, _ := Fork(sample(), 0)
	full, _, _ := Fork(forked, 2)
	behind, _ := Exit(full, 3)
	last := sample()
	last.Spaces[1].Live = true // so that the child comes behind all others
	var l []call
	for i, m := range []api.Machine{sample(), forked, full, behind, last, alive(true), {}} {
		for p := -1; p <= api.MaxProcs; p++ {
			l = append(l,
				call{fmt.Sprintf("machine %d: process %d forks", i, p), m, func(m api.Machine) (api.Machine, int, api.Errno) { return Fork(m, p) }},
				call{fmt.Sprintf("machine %d: process %d goes", i, p), m, func(m api.Machine) (api.Machine, int, api.Errno) {
					got, err := Exit(m, p)
					return got, 0, err
				}})
		}
	}
	return l
}

func TestOnlyReadsAndKeepsNothing(t *testing.T) {
	for _, c := range calls() {
		want, wantN, wantErr := c.do(c.m)
		m := roomy(c.m)
		before := show(whole(m))
		got, n, err := c.do(m)
		if show(got) != show(want) || n != wantN || err != wantErr {
			t.Errorf("%s: with spare room it is %d and %s, errno %d", c.name, n, show(got), err)
		}
		if show(whole(m)) != before {
			t.Errorf("%s: what was handed in has changed", c.name)
		}
		scribble(m)
		if show(got) != show(want) {
			t.Errorf("%s: the answer changes with what was handed in", c.name)
		}
		m = roomy(c.m)
		got, _, _ = c.do(m)
		scribble(got)
		if show(whole(m)) != before {
			t.Errorf("%s: what was handed in changes with the answer", c.name)
		}
	}
}

// TestListsAreApart: parent and child see the same, but no list of the one is the other one's.
func TestListsAreApart(t *testing.T) {
	for _, c := range calls() {
		for p := range api.MaxProcs {
			got, _, _ := c.do(c.m)
			if p >= len(got.Spaces) {
				continue
			}
			want := machine.Own(got)
			fill(api.Area{From: 77})(got.Spaces[p].Areas)
			for _, half := range got.Spaces[p].Table {
				fill(api.Entry{Kind: 77})(half)
			}
			got.Spaces[p] = want.Spaces[p]
			if show(got) != show(want) {
				t.Errorf("%s: by changes of process %d it is %s, not %s", c.name, p, show(got), show(want))
			}
		}
	}
}

func TestNilIsEmpty(t *testing.T) {
	m := api.Machine{Spaces: []api.Space{{Live: true}}}
	empty := api.Machine{
		Memory: api.Memory{Frames: []api.Frame{}},
		Slots:  api.Slots{},
		Swap:   api.Disk{Blocks: []api.Page{}, Queue: []api.Put{}},
		Disk:   api.Disk{Blocks: []api.Page{}, Queue: []api.Put{}},
		Store:  api.Store{Files: []api.File{}},
		Cache:  []api.Cached{},
		Spaces: []api.Space{{Live: true, Areas: []api.Area{}}, {Areas: []api.Area{}}},
	}
	for p := range empty.Spaces {
		for h := range empty.Spaces[p].Table {
			empty.Spaces[p].Table[h] = []api.Entry{}
		}
	}
	for _, x := range []api.Machine{m, empty} {
		forked, child, err := checkFork(t, "empty lists", x, 0)
		if err != api.OK || child != 1 {
			t.Errorf("the child of %s is %d, errno %d", show(x), child, err)
		}
		for p := range 2 {
			if _, err := checkExit(t, "empty lists", forked, p); err != api.OK {
				t.Errorf("process %d of %s goes: errno %d", p, show(forked), err)
			}
		}
	}
}
