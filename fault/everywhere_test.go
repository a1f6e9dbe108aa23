package fault

import (
	"slices"
	"testing"

	"pagewright/api"
	"pagewright/machine"
)

// What holds everywhere.

// lists answers m with each of its lists handed through the functions of do, the lists within lists first.
func lists(m api.Machine, do doer) api.Machine {
	m.Store.Files = slices.Clone(m.Store.Files)
	for i, f := range m.Store.Files {
		m.Store.Files[i].Blocks = do.ints(f.Blocks)
	}
	m.Spaces = slices.Clone(m.Spaces)
	for i, s := range m.Spaces {
		m.Spaces[i].Areas = do.areas(s.Areas)
		for h, half := range s.Table {
			m.Spaces[i].Table[h] = do.entries(half)
		}
	}
	m.Memory.Frames = do.frames(m.Memory.Frames)
	m.Slots = do.ints(m.Slots)
	m.Swap = api.Disk{Blocks: do.pages(m.Swap.Blocks), Queue: do.puts(m.Swap.Queue)}
	m.Disk = api.Disk{Blocks: do.pages(m.Disk.Blocks), Queue: do.puts(m.Disk.Queue)}
	m.Store.Files = do.files(m.Store.Files)
	m.Cache = do.cache(m.Cache)
	m.Spaces = do.spaces(m.Spaces)
	return m
}

type doer struct {
	frames  func([]api.Frame) []api.Frame
	ints    func([]int) []int
	pages   func([]api.Page) []api.Page
	puts    func([]api.Put) []api.Put
	files   func([]api.File) []api.File
	cache   func([]api.Cached) []api.Cached
	spaces  func([]api.Space) []api.Space
	areas   func([]api.Area) []api.Area
	entries func([]api.Entry) []api.Entry
}

// scrap is l with spare room behind it, full of x.
func scrap[T any](x T) func(l []T) []T {
	return func(l []T) []T { return append(slices.Clone(l), slices.Repeat([]T{x}, 5)...)[:len(l)] }
}

// roomy is m with spare room behind each of its lists, in which stands what would be wrong.
func roomy(m api.Machine) api.Machine {
	return lists(m, doer{
		scrap(api.Frame{Refs: -1, File: 9}), scrap(-7), scrap(api.Page{99}), scrap(api.Put{At: -1}), scrap(api.File{Size: -1}),
		scrap(api.Cached{File: -1}), scrap(api.Space{Live: true}), scrap(api.Area{From: -1}), scrap(api.Entry{Kind: 7}),
	})
}

func toEnd[T any](l []T) []T { return l[:cap(l)] }

// whole is m with the spare room behind its lists; what is within spare room is left.
func whole(m api.Machine) api.Machine {
	return lists(m, doer{toEnd[api.Frame], toEnd[int], toEnd[api.Page], toEnd[api.Put], toEnd[api.File], toEnd[api.Cached], toEnd[api.Space], toEnd[api.Area], toEnd[api.Entry]})
}

func fill[T any](x T) func(l []T) []T {
	return func(l []T) []T {
		for i := range l[:cap(l)] {
			l[:cap(l)][i] = x
		}
		return l
	}
}

// scribble changes all of m, the spare room behind its lists too.
func scribble(m api.Machine) {
	files, spaces := m.Store.Files, m.Spaces
	lists(m, doer{
		fill(api.Frame{Refs: 77}), fill(77), fill(api.Page{77}), fill(api.Put{At: 77}), fill(api.File{Size: 77}),
		fill(api.Cached{File: 77}), fill(api.Space{}), fill(api.Area{From: 77}), fill(api.Entry{Kind: 77}),
	})
	// lists has walked through copies of these two.
	fill(api.File{Size: 77})(files)
	fill(api.Space{})(spaces)
}

// machines are some in which pages are used by each way that there is.
func machines() []api.Machine {
	l := []api.Machine{sample(), packed()}
	for _, s := range sorts() {
		l = append(l, filled(1, 3, s.lay))
	}
	return l
}

func TestOnlyReadsAndKeepsNothing(t *testing.T) {
	for i, plain := range machines() {
		for p := range plain.Spaces {
			for n := range 62 {
				for _, write := range []bool{false, true} {
					want, wantK, wantErr := Use(plain, p, n, write)
					m := roomy(plain)
					before := show(whole(m))
					got, k, err := Use(m, p, n, write)
					if show(got) != show(want) || k != wantK || err != wantErr {
						t.Errorf("machine %d: with spare room page %d of process %d is in frame %d of %s, errno %d", i, n, p, k, show(got), err)
					}
					if show(whole(m)) != before {
						t.Errorf("machine %d: by page %d of process %d what was handed in has changed", i, n, p)
					}
					scribble(m)
					if show(got) != show(want) {
						t.Errorf("machine %d: by page %d of process %d the answer changes with what was handed in", i, n, p)
					}
					m = roomy(plain)
					got, _, _ = Use(m, p, n, write)
					scribble(got)
					if show(whole(m)) != before {
						t.Errorf("machine %d: by page %d of process %d what was handed in changes with the answer", i, n, p)
					}
				}
			}
		}
	}
}

// grow lays one more behind each list of m.
func grow(m api.Machine) {
	lists(m, doer{more(api.Frame{Refs: 77}), more(77), more(api.Page{77}), more(api.Put{At: 77}), more(api.File{Size: 77}), more(api.Cached{File: 77}), more(api.Space{}), more(api.Area{From: 77}), more(api.Entry{Kind: 77})})
}

func more[T any](x T) func(l []T) []T {
	return func(l []T) []T {
		_ = append(l, x)
		return l
	}
}

// TestListsAreApart: no list of an answer runs into another one.
func TestListsAreApart(t *testing.T) {
	for i, m := range machines() {
		for p := range m.Spaces {
			for n := range 62 {
				got, _, _ := Use(m, p, n, true)
				before := show(got)
				grow(got)
				if show(got) != before {
					t.Errorf("machine %d: by page %d of process %d lists of the answer share memory", i, n, p)
				}
			}
		}
	}
}

func TestNilIsEmpty(t *testing.T) {
	m, _ := machine.New(api.Config{Frames: 1})
	m.Spaces[0].Areas = []api.Area{{From: 7, To: 9, Read: true, File: -1}}
	m.Slots, m.Swap, m.Disk, m.Store, m.Cache = nil, api.Disk{}, api.Disk{}, api.Store{}, nil
	empty := machine.Own(m)
	empty.Slots, empty.Cache, empty.Store.Files = api.Slots{}, []api.Cached{}, []api.File{}
	empty.Swap = api.Disk{Blocks: []api.Page{}, Queue: []api.Put{}}
	empty.Disk = api.Disk{Blocks: []api.Page{}, Queue: []api.Put{}}
	for h := range empty.Spaces[0].Table {
		empty.Spaces[0].Table[h] = []api.Entry{}
	}
	for _, x := range []api.Machine{m, empty} {
		first, k, err := check(t, "empty lists", x, 0, 7, false)
		if err != api.OK || k != 0 {
			t.Errorf("page 7 is in frame %d of %s, errno %d", k, show(first), err)
		}
		if _, _, err := check(t, "empty lists, no room", first, 0, 8, false); err != api.ErrFull {
			t.Errorf("page 8 is errno %d", err)
		}
	}
}
