package kernel

import (
	"fmt"
	"slices"
	"testing"

	"pagewright/api"
)

// What holds everywhere.

// lists answers m with each of its lists handed through the functions of do, the lists within lists first.
func lists(m api.Machine, do doer) api.Machine {
	m.Store.Files = slices.Clone(m.Store.Files)
	for i, f := range m.Store.Files {
		m.Store.Files[i].Blocks = do.ints(f.Blocks)
	}
	m.Spaces = slices.Clone(m.Spaces)
	for i, s := range m.Spaces {
		m.Spaces[i].Areas = do.areas(s.Areas)
		for h, half := range s.Table {
			m.Spaces[i].Table[h] = do.entries(half)
		}
	}
	m.Memory.Frames = do.frames(m.Memory.Frames)
	m.Slots = do.ints(m.Slots)
	m.Swap = api.Disk{Blocks: do.pages(m.Swap.Blocks), Queue: do.puts(m.Swap.Queue)}
	m.Disk = api.Disk{Blocks: do.pages(m.Disk.Blocks), Queue: do.puts(m.Disk.Queue)}
	m.Store.Files = do.files(m.Store.Files)
	m.Cache = do.cache(m.Cache)
	m.Spaces = do.spaces(m.Spaces)
	return m
}

type doer struct {
	frames  func([]api.Frame) []api.Frame
	ints    func([]int) []int
	pages   func([]api.Page) []api.Page
	puts    func([]api.Put) []api.Put
	files   func([]api.File) []api.File
	cache   func([]api.Cached) []api.Cached
	spaces  func([]api.Space) []api.Space
	areas   func([]api.Area) []api.Area
	entries func([]api.Entry) []api.Entry
}

// scrap is l with spare room behind it, full of x.
func scrap[T any](x T) func(l []T) []T {
	return func(l []T) []T { return append(slices.Clone(l), slices.Repeat([]T{x}, 5)...)[:len(l)] }
}

// roomy is m with spare room behind each of its lists, in which stands what would be wrong.
func roomy(m api.Machine) api.Machine {
	return lists(m, doer{
		scrap(api.Frame{Refs: -1, File: 9}), scrap(-7), scrap(api.Page{99}), scrap(api.Put{At: -1}), scrap(api.File{Size: -1}),
		scrap(api.Cached{File: -1}), scrap(api.Space{Live: true}), scrap(api.Area{From: -1}), scrap(api.Entry{Kind: 7}),
	})
}

func toEnd[T any](l []T) []T { return l[:cap(l)] }

// whole is m with the spare room behind its lists; what is within spare room is left.
func whole(m api.Machine) api.Machine {
	return lists(m, doer{toEnd[api.Frame], toEnd[int], toEnd[api.Page], toEnd[api.Put], toEnd[api.File], toEnd[api.Cached], toEnd[api.Space], toEnd[api.Area], toEnd[api.Entry]})
}

func fill[T any](x T) func(l []T) []T {
	return func(l []T) []T {
		for i := range l[:cap(l)] {
			l[:cap(l)][i] = x
		}
		return l
	}
}

// scribble changes all of m, the spare room behind its lists too.
func scribble(m api.Machine) {
	files, spaces := m.Store.Files, m.Spaces
	lists(m, doer{
		fill(api.Frame{Refs: 77}), fill(77), fill(api.Page{77}), fill(api.Put{At: 77}), fill(api.File{Size: 77}),
		fill(api.Cached{File: 77}), fill(api.Space{}), fill(api.Area{From: 77}), fill(api.Entry{Kind: 77}),
	})
	// lists has walked through copies of these two.
	fill(api.File{Size: 77})(files)
	fill(api.Space{})(spaces)
}

// attempts are calls of all kinds that are answered, and ones that are refused.
func attempts() []api.Call {
	l := []api.Call{
		mapping(0, 40, 3, -1, 0, "rw"), mapping(0, 31, 3, 0, 1, "rws"), mapping(2, -1, 2, 3, 0, "r"), mapping(0, 1, 1, -1, 0, "r"),
		{Kind: api.CallUnmap, At: 2, N: 8}, {Kind: api.CallUnmap, At: 64, N: 1}, {Kind: api.CallProtect, At: 1, N: 9, Read: true}, {Kind: api.CallProtect, At: 0, N: 2},
		load(0, 8, 2), load(0, 24, 8), load(0, 64, 4), load(0, 8, 9), load(2, 83, 5), load(0, 90, 1),
		keep(0, 8, 1, 2), keep(0, 16, 3), keep(0, 24, 4), keep(0, 48, 5, 6), keep(0, 128, 7), keep(0, 70, 1, 2), keep(2, 128, 1), keep(0, 68, 1, 2, 3, 4), keep(0, 8),
		of(api.CallFork, 0), of(api.CallFork, 1), of(api.CallExit, 2), of(api.CallExit, 3), of(api.CallCreate, 0),
		read(0, 0, 99), read(0, 3, 9), read(3, 0, 0), read(4, 0, 1), read(1, -1, 1),
		write(0, 3, 1, 2, 3), write(2, 5, 1, 2, 3, 4, 5, 6, 7, 8, 9), write(3, 20, 1), write(1, 96, 1), write(1, 3), write(2, 0, make([]byte, 96)...),
		trunc(0, 3), trunc(0, 0), trunc(0, 8), trunc(0, 96), trunc(3, 97), trunc(3, 24),
	}
	for n := range 4 {
		l = append(l, api.Call{Kind: api.CallSync, File: n + 1}, api.Call{Kind: api.CallSync, File: n}, api.Call{Kind: api.StepCrash, N: n})
	}
	return append(l, of(api.StepEvict, 0), of(api.StepClean, 0), of(0, 0), of(16, 0))
}

// machines are some that the calls are made of, the last one a wrong one.
func machines() []api.Machine {
	free, _ := Do(sample(), of(api.StepEvict, 0))
	forked, _ := Do(sample(), of(api.CallFork, 0))
	left, _ := Do(sample(), api.Call{Kind: api.StepCrash, N: 1})
	return []api.Machine{sample(), free, forked, left, {}, {Spaces: make([]api.Space, 5)}}
}

// try calls c of m.
type try struct {
	name string
	m    api.Machine
	c    api.Call
}

func tries() []try {
	var l []try
	for i, m := range machines() {
		for _, c := range attempts() {
			l = append(l, try{fmt.Sprintf("machine %d: %+v", i, c), m, c})
		}
	}
	return l
}

func TestOnlyReadsAndKeepsNothing(t *testing.T) {
	spare := scrap(byte(222))
	for _, x := range tries() {
		want, wanted := Do(x.m, x.c)
		m, c := roomy(x.m), x.c
		c.Data = spare(c.Data)
		before, data := show(whole(m)), slices.Clone(toEnd(c.Data))
		got, a := Do(m, c)
		if show(got) != show(want) || !same(a, wanted) {
			t.Errorf("%s: with spare room it is %+v and %s, not %+v and %s", x.name, a, show(got), wanted, show(want))
		}
		if show(whole(m)) != before || !slices.Equal(toEnd(c.Data), data) {
			t.Errorf("%s: what was handed in has changed", x.name)
		}
		scribble(m)
		fill(byte(77))(c.Data)
		if show(got) != show(want) || !same(a, wanted) {
			t.Errorf("%s: the answer changes with what was handed in", x.name)
		}
		m, c.Data = roomy(x.m), spare(x.c.Data)
		got, a = Do(m, c)
		scribble(got)
		fill(byte(77))(a.Data)
		if show(whole(m)) != before || !slices.Equal(toEnd(c.Data), data) {
			t.Errorf("%s: what was handed in changes with the answer", x.name)
		}
	}
}

// TestListsAreApart: no two lists of an answer are one, in their spare room neither.
func TestListsAreApart(t *testing.T) {
	for _, x := range tries() {
		count := 0
		got, a := Do(x.m, x.c)
		lists(got, numbered(&count, -1))
		for k := range count {
			got, a := Do(x.m, x.c)
			want, data := lists(got, copies()), slices.Clone(a.Data)
			n := 0
			// The one list that is changed is put back as it was.
			is := lists(got, numbered(&n, k))
			if show(is) != show(want) || !slices.Equal(a.Data, data) {
				t.Fatalf("%s: by changes of list %d it is %s, not %s", x.name, k, show(is), show(want))
			}
		}
		before := show(got)
		fill(byte(77))(a.Data)
		if show(got) != before {
			t.Errorf("%s: the machine changes with Data", x.name)
		}
	}
}

// copies has all lists be copies.
func copies() doer {
	return doer{slices.Clone[[]api.Frame], slices.Clone[[]int], slices.Clone[[]api.Page], slices.Clone[[]api.Put], slices.Clone[[]api.File], slices.Clone[[]api.Cached], slices.Clone[[]api.Space], slices.Clone[[]api.Area], slices.Clone[[]api.Entry]}
}

// numbered counts lists, and changes list k, and its spare room, but answers it as it was.
func numbered(count *int, k int) doer {
	return doer{nth(count, k, api.Frame{Refs: 77}), nth(count, k, 77), nth(count, k, api.Page{77}), nth(count, k, api.Put{At: 77}), nth(count, k, api.File{Size: 77}), nth(count, k, api.Cached{File: 77}), nth(count, k, api.Space{}), nth(count, k, api.Area{From: 77}), nth(count, k, api.Entry{Kind: 77})}
}

func nth[T any](count *int, k int, x T) func(l []T) []T {
	return func(l []T) []T {
		*count++
		if *count-1 != k {
			return l
		}
		was := slices.Clone(l)
		fill(x)(l)
		return was
	}
}

func TestNilIsEmpty(t *testing.T) {
	empty := api.Machine{
		Memory: api.Memory{Frames: []api.Frame{}},
		Slots:  api.Slots{},
		Swap:   api.Disk{Blocks: []api.Page{}, Queue: []api.Put{}},
		Disk:   api.Disk{Blocks: []api.Page{}, Queue: []api.Put{}},
		Store:  api.Store{Files: []api.File{{Blocks: []int{}}}},
		Cache:  []api.Cached{},
		Spaces: []api.Space{{Live: true, Areas: []api.Area{}}, {Areas: []api.Area{}}},
	}
	for p := range empty.Spaces {
		for h := range empty.Spaces[p].Table {
			empty.Spaces[p].Table[h] = []api.Entry{}
		}
	}
	none := api.Machine{Store: api.Store{Files: make([]api.File, 1)}, Spaces: []api.Space{{Live: true}, {}}}
	for _, c := range attempts() {
		got, a := check(t, "empty lists", empty, c)
		want, wanted := check(t, "no lists", none, c)
		if show(got) != show(want) || !same(a, wanted) {
			t.Errorf("%+v: of empty lists it is %+v and %s, not %+v and %s", c, a, show(got), wanted, show(want))
		}
	}
	for _, data := range [][]byte{nil, {}} {
		for _, kind := range []int{api.CallStore, api.CallWrite} {
			c := api.Call{Kind: kind, At: 8, Data: data}
			if _, a := check(t, "no Data", sample(), c); !same(a, api.Answer{}) {
				t.Errorf("%+v: it is %+v", c, a)
			}
		}
	}
	for _, l := range [][]api.Call{nil, {}} {
		if m, answers, err := Play(api.Config{}, l); err != api.OK || len(answers) != 0 || len(m.Spaces) != 1 {
			t.Errorf("no calls: errno %d, %v and %s", err, answers, show(m))
		}
	}
}

// TestPlayOnlyReads: neither the calls, nor their Data, nor the spare room behind both.
func TestPlayOnlyReads(t *testing.T) {
	calls := func() []api.Call {
		l := []api.Call{mapping(0, 0, 3, -1, 0, "rw"), keep(0, 3, 1, 2), of(api.CallCreate, 0), write(0, 2, 3, 4), load(0, 0, 8), read(0, 0, 9)}
		for i := range l {
			l[i].Data = scrap(byte(222))(l[i].Data)
		}
		return append(l, slices.Repeat([]api.Call{{Kind: 99}}, 90)...)[:len(l)]
	}
	tellAll := func(l []api.Call) string {
		s := fmt.Sprint(toEnd(l))
		for _, c := range l {
			s += fmt.Sprint(toEnd(c.Data))
		}
		return s
	}
	conf, l := api.Config{Frames: 2, Slots: 2, Blocks: 2}, calls()
	m, answers, err := Play(conf, l)
	if err != api.OK || tellAll(l) != tellAll(calls()) {
		t.Errorf("errno %d; the calls are %v", err, toEnd(l))
	}
	before := fmt.Sprint(show(m), answers)
	for _, c := range l {
		fill(byte(77))(c.Data)
	}
	fill(api.Call{Kind: 77})(l)
	if fmt.Sprint(show(m), answers) != before {
		t.Errorf("the answer changes with what was handed in")
	}
	for i := range answers {
		fill(byte(77))(answers[i].Data)
		answers[i].Data = nil
	}
	if got, _, _ := Play(conf, calls()); show(got) != show(m) {
		t.Errorf("the machine changes with the answers")
	}
}
