package paging

import (
	"fmt"
	"math"
	"slices"
	"testing"

	"pagewright/api"
)

// What holds everywhere.

// lists answers m with each of its lists handed through the functions of do, the lists within lists first.
func lists(m api.Machine, do doer) api.Machine {
	m.Store.Files = slices.Clone(m.Store.Files)
	for i, f := range m.Store.Files {
		m.Store.Files[i].Blocks = do.ints(f.Blocks)
	}
	m.Spaces = slices.Clone(m.Spaces)
	for i, s := range m.Spaces {
		m.Spaces[i].Areas = do.areas(s.Areas)
		for h, half := range s.Table {
			m.Spaces[i].Table[h] = do.entries(half)
		}
	}
	m.Memory.Frames = do.frames(m.Memory.Frames)
	m.Slots = do.ints(m.Slots)
	m.Swap = api.Disk{Blocks: do.pages(m.Swap.Blocks), Queue: do.puts(m.Swap.Queue)}
	m.Disk = api.Disk{Blocks: do.pages(m.Disk.Blocks), Queue: do.puts(m.Disk.Queue)}
	m.Store.Files = do.files(m.Store.Files)
	m.Cache = do.cache(m.Cache)
	m.Spaces = do.spaces(m.Spaces)
	return m
}

type doer struct {
	frames  func([]api.Frame) []api.Frame
	ints    func([]int) []int
	pages   func([]api.Page) []api.Page
	puts    func([]api.Put) []api.Put
	files   func([]api.File) []api.File
	cache   func([]api.Cached) []api.Cached
	spaces  func([]api.Space) []api.Space
	areas   func([]api.Area) []api.Area
	entries func([]api.Entry) []api.Entry
}

// scrap is l with spare room behind it, full of x.
func scrap[T any](x T) func(l []T) []T {
	return func(l []T) []T { return append(slices.Clone(l), slices.Repeat([]T{x}, 5)...)[:len(l)] }
}

// roomy is m with spare room behind each of its lists, in which stands what would be wrong.
func roomy(m api.Machine) api.Machine {
	return lists(m, doer{
		scrap(api.Frame{Refs: -1, File: 9}), scrap(-7), scrap(api.Page{99}), scrap(api.Put{At: -1}), scrap(api.File{Size: -1}),
		scrap(api.Cached{File: -1}), scrap(api.Space{Live: true}), scrap(api.Area{From: -1}), scrap(api.Entry{Kind: 7}),
	})
}

func toEnd[T any](l []T) []T { return l[:cap(l)] }

// whole is m with the spare room behind its lists; what is within spare room is left.
func whole(m api.Machine) api.Machine {
	return lists(m, doer{toEnd[api.Frame], toEnd[int], toEnd[api.Page], toEnd[api.Put], toEnd[api.File], toEnd[api.Cached], toEnd[api.Space], toEnd[api.Area], toEnd[api.Entry]})
}

func fill[T any](x T) func(l []T) []T {
	return func(l []T) []T {
		for i := range l[:cap(l)] {
			l[:cap(l)][i] = x
		}
		return l
	}
}

// scribble changes all of m, the spare room behind its lists too.
func scribble(m api.Machine) {
	files, spaces := m.Store.Files, m.Spaces
	lists(m, doer{
		fill(api.Frame{Refs: 77}), fill(77), fill(api.Page{77}), fill(api.Put{At: 77}), fill(api.File{Size: 77}),
		fill(api.Cached{File: 77}), fill(api.Space{}), fill(api.Area{From: 77}), fill(api.Entry{Kind: 77}),
	})
	// lists has walked through copies of these two.
	fill(api.File{Size: 77})(files)
	fill(api.Space{})(spaces)
}

// call is one of the calls of a machine; told is what stands beside the machine in its answer.
type call struct {
	name string
	m    api.Machine
	do   func(m api.Machine) (got api.Machine, told string)
}

// calls are all of them, of some machines.
func calls() []call {
	free, _, _ := Evict(sample())
	synced, _ := Sync(sample(), 0)
	left, _ := Crash(sample(), 1)
	var l []call
	for i, m := range []api.Machine{sample(), small(2, 5), free, synced, left, {}, {Spaces: make([]api.Space, 5)}} {
		l = append(l,
			call{fmt.Sprintf("machine %d: Evict", i), m, func(m api.Machine) (api.Machine, string) {
				got, ok, err := Evict(m)
				return got, fmt.Sprint(ok, err)
			}},
			call{fmt.Sprintf("machine %d: Clean", i), m, func(m api.Machine) (api.Machine, string) {
				got, ok, err := Clean(m)
				return got, fmt.Sprint(ok, err)
			}})
		for _, n := range []int{-1, 0, 1, 2, 3, 4, math.MinInt, math.MaxInt} {
			l = append(l,
				call{fmt.Sprintf("machine %d: Sync of %d", i, n), m, func(m api.Machine) (api.Machine, string) {
					got, err := Sync(m, n)
					return got, fmt.Sprint(err)
				}},
				call{fmt.Sprintf("machine %d: Crash of %d", i, n), m, func(m api.Machine) (api.Machine, string) {
					got, err := Crash(m, n)
					return got, fmt.Sprint(err)
				}})
		}
	}
	return l
}

func TestOnlyReadsAndKeepsNothing(t *testing.T) {
	for _, c := range calls() {
		want, wantTold := c.do(c.m)
		m := roomy(c.m)
		before := show(whole(m))
		got, told := c.do(m)
		if show(got) != show(want) || told != wantTold {
			t.Errorf("%s: with spare room it is %s and %s, not %s and %s", c.name, told, show(got), wantTold, show(want))
		}
		if show(whole(m)) != before {
			t.Errorf("%s: what was handed in has changed", c.name)
		}
		scribble(m)
		if show(got) != show(want) {
			t.Errorf("%s: the answer changes with what was handed in", c.name)
		}
		m = roomy(c.m)
		got, _ = c.do(m)
		scribble(got)
		if show(whole(m)) != before {
			t.Errorf("%s: what was handed in changes with the answer", c.name)
		}
	}
}

// TestListsAreApart: no two lists of an answer are one, in their spare room neither.
func TestListsAreApart(t *testing.T) {
	for _, c := range calls() {
		count := 0
		got, _ := c.do(c.m)
		lists(got, numbered(&count, -1))
		for k := range count {
			got, _ := c.do(c.m)
			want := lists(got, copies())
			n := 0
			// The one list that is changed is put back as it was.
			is := lists(got, numbered(&n, k))
			if show(is) != show(want) {
				t.Fatalf("%s: by changes of list %d it is %s, not %s", c.name, k, show(is), show(want))
			}
		}
	}
}

// copies has all lists be copies.
func copies() doer {
	return doer{slices.Clone[[]api.Frame], slices.Clone[[]int], slices.Clone[[]api.Page], slices.Clone[[]api.Put], slices.Clone[[]api.File], slices.Clone[[]api.Cached], slices.Clone[[]api.Space], slices.Clone[[]api.Area], slices.Clone[[]api.Entry]}
}

// numbered counts lists, and changes list k, and its spare room, but answers it as it was.
func numbered(count *int, k int) doer {
	return doer{nth(count, k, api.Frame{Refs: 77}), nth(count, k, 77), nth(count, k, api.Page{77}), nth(count, k, api.Put{At: 77}), nth(count, k, api.File{Size: 77}), nth(count, k, api.Cached{File: 77}), nth(count, k, api.Space{}), nth(count, k, api.Area{From: 77}), nth(count, k, api.Entry{Kind: 77})}
}

func nth[T any](count *int, k int, x T) func(l []T) []T {
	return func(l []T) []T {
		*count++
		if *count-1 != k {
			return l
		}
		was := slices.Clone(l)
		fill(x)(l)
		return was
	}
}

func TestNilIsEmpty(t *testing.T) {
	empty := api.Machine{
		Memory: api.Memory{Frames: []api.Frame{}},
		Slots:  api.Slots{},
		Swap:   api.Disk{Blocks: []api.Page{}, Queue: []api.Put{}},
		Disk:   api.Disk{Blocks: []api.Page{}, Queue: []api.Put{}},
		Store:  api.Store{Files: []api.File{{Blocks: []int{}}}},
		Cache:  []api.Cached{},
		Spaces: []api.Space{{Live: true, Areas: []api.Area{}}, {Areas: []api.Area{}}},
	}
	for p := range empty.Spaces {
		for h := range empty.Spaces[p].Table {
			empty.Spaces[p].Table[h] = []api.Entry{}
		}
	}
	for i, m := range []api.Machine{empty, {Store: api.Store{Files: make([]api.File, 1)}, Spaces: []api.Space{{Live: true}, {}}}} {
		name := fmt.Sprint("empty lists ", i)
		if _, ok := checkEvict(t, name, m); ok {
			t.Errorf("%s: a frame is free", name)
		}
		if _, ok := checkClean(t, name, m); ok {
			t.Errorf("%s: a frame was Dirty", name)
		}
		if _, err := checkSync(t, name, m, 0); err != api.OK {
			t.Errorf("%s: file 0 is synced: errno %d", name, err)
		}
		if _, err := checkCrash(t, name, m, 1); err != api.OK {
			t.Errorf("%s: a crash: errno %d", name, err)
		}
	}
}
