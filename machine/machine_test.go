package machine

import (
	"fmt"
	"math"
	"reflect"
	"slices"
	"testing"

	"pagewright/api"
)

func present(n int) api.Entry { return api.Entry{Kind: api.Present, N: n} }

func writable(n int) api.Entry { return api.Entry{Kind: api.Present, N: n, Write: true} }

func swapped(n int) api.Entry { return api.Entry{Kind: api.Swapped, N: n} }

// put lays e at page n of process p.
func put(m *api.Machine, p, n int, e api.Entry) {
	t := &m.Spaces[p].Table
	if len(t[n/8]) == 0 {
		t[n/8] = make([]api.Entry, 8)
	}
	t[n/8][n%8] = e
}

// sample is a right machine of which each kind of page has one at least: alone, of two, of a file, in the cache or not, in a slot, nowhere.
func sample() api.Machine {
	m, _ := New(api.Config{Frames: 8, Slots: 5, Blocks: 6})
	free := api.Frame{File: -1}
	m.Memory.Hand = 3
	m.Memory.Frames = []api.Frame{
		{Page: api.Page{50, 51}, Refs: 1, Used: true, Dirty: true, File: -1},
		{Page: api.Page{52}, Refs: 2, File: -1},
		{Page: api.Page{60, 61, 62}, Refs: 3, Dirty: true, File: 0, Index: 1},
		free,
		{Page: api.Page{63, 0, 0, 0, 0, 0, 0, 64}, Refs: 1, Used: true, File: 1},
		{Page: api.Page{65}, Refs: 2, File: 0},
		free,
		{Page: api.Page{53}, Refs: 1, File: -1},
	}
	m.Slots = api.Slots{0, 2, 0, 1, 0}
	m.Swap.Blocks = []api.Page{{90}, {70, 71}, {91}, {92}, {}}
	m.Swap.Queue = []api.Put{{At: 3, Page: api.Page{93}}, {At: 2, Page: api.Page{94}}, {At: 3, Page: api.Page{72}}}
	m.Store.Files = []api.File{{Size: 20, Blocks: []int{2, -1, 0}}, {Size: 8, Blocks: []int{4}}, {}, {Size: 10, Blocks: []int{-1, 3}}}
	m.Disk.Blocks[2] = api.Page{1, 2, 3, 4, 5, 6, 7, 8}
	m.Disk.Blocks[0] = api.Page{9, 9}
	m.Disk.Blocks[3] = api.Page{31, 32, 33, 34}
	m.Disk.Blocks[4] = api.Page{21}
	m.Disk.Queue = []api.Put{{At: 4, Page: api.Page{22}}, {At: 0, Page: api.Page{8}}, {At: 0, Page: api.Page{11, 12, 13, 14, 15, 16, 17, 18}}}
	m.Cache = []api.Cached{{File: 0, Index: 0, Frame: 5}, {File: 0, Index: 1, Frame: 2}, {File: 1, Index: 0, Frame: 4}}
	m.Spaces = []api.Space{
		{Live: true, Areas: []api.Area{
			{From: 1, To: 5, Read: true, Write: true, File: -1},
			{From: 5, To: 8, Read: true, Write: true, Shared: true, File: 0},
			{From: 8, To: 10, Read: true, File: 1},
			{From: 20, To: 21, Read: true, File: 2},
			{From: 30, To: 32, Read: true, Write: true, File: 4},
			{From: 63, To: 64, File: -1},
		}},
		{},
		{Live: true, Areas: []api.Area{
			{From: 1, To: 4, Read: true, Write: true, File: -1},
			{From: 10, To: 13, Read: true, Write: true, File: 0},
			{From: 16, To: 17, Read: true, Shared: true, File: 0, Base: 1},
			{From: 40, To: 42, Read: true, Write: true, File: 3},
		}},
	}
	put(&m, 0, 1, writable(0))
	put(&m, 0, 2, present(1))
	put(&m, 0, 3, swapped(1))
	put(&m, 0, 6, writable(2))
	put(&m, 0, 63, swapped(3))
	put(&m, 2, 2, present(1))
	put(&m, 2, 3, swapped(1))
	put(&m, 2, 10, present(5))
	put(&m, 2, 11, writable(7))
	put(&m, 2, 16, present(2))
	return m
}

// full is a right machine of as much as there may be of everything.
func full() api.Machine {
	m, _ := New(api.Config{Frames: 40, Slots: 60, Blocks: 80})
	for i := range m.Disk.Blocks[:60] {
		m.Disk.Blocks[i] = api.Page{byte(i), 1}
	}
	for i := range 400 {
		m.Disk.Queue = append(m.Disk.Queue, api.Put{At: i % 60, Page: api.Page{byte(i)}})
		m.Swap.Queue = append(m.Swap.Queue, api.Put{At: i % 60, Page: api.Page{byte(i), 2}})
	}
	m.Spaces = make([]api.Space, 4)
	for file := range 5 {
		f := api.File{Size: 96}
		for index := range 12 {
			f.Blocks = append(f.Blocks, 12*file+index)
			if k := len(m.Cache); k < 40 {
				m.Cache = append(m.Cache, api.Cached{File: file, Index: index, Frame: k})
				m.Memory.Frames[k] = api.Frame{Page: api.Page{byte(k), 3}, Refs: 1, File: file, Index: index}
			}
		}
		m.Store.Files = append(m.Store.Files, f)
	}
	for p := range m.Spaces {
		s := &m.Spaces[p]
		s.Live = true
		for i := range 16 {
			s.Areas = append(s.Areas, api.Area{From: 4 * i, To: 4*i + 4, Read: i%2 == 0, Write: i%3 == 0, Shared: i%5 == 4, File: i%6 - 1, Base: max(i%6-1, 0)})
		}
		for n := range 64 {
			switch a := s.Areas[n/4]; a.File {
			case -1, 4:
				if !a.Shared {
					put(&m, p, n, swapped((n+p)%60))
					m.Slots[(n+p)%60]++
				}
			case 0, 1, 2:
				k := 12*a.File + a.Base + n%4
				put(&m, p, n, api.Entry{Kind: api.Present, N: k, Write: a.Write && a.Shared})
				m.Memory.Frames[k].Refs++
			}
		}
	}
	return m
}

// nothing is a machine without anything, not even a process.
func nothing() api.Machine { return api.Machine{} }

func show(m api.Machine) string { return fmt.Sprintf("%+v", m) }

func same(a, b api.Machine) bool { return show(a) == show(b) }

// isNothing tells whether m is what stands beside an error.
func isNothing(m api.Machine) bool { return reflect.DeepEqual(m, api.Machine{}) }

// change is one thing that is done to a machine, and what is wrong with it then.
type change struct {
	name string
	do   func(m *api.Machine)
	want api.Errno
}

// brokenParts are changes of sample after which one of its parts is wrong by itself, in the order in which the parts are asked.
func brokenParts() []change {
	return []change{
		{"41 frames", func(m *api.Machine) { m.Memory.Frames = slices.Repeat([]api.Frame{{File: -1}}, 41) }, api.ErrMany},
		{"Refs -1", func(m *api.Machine) { m.Memory.Frames[0].Refs = -1 }, api.ErrRange},
		{"File 5 of a frame", func(m *api.Machine) { m.Memory.Frames[2].File = 5 }, api.ErrRange},
		{"Index 12 of a frame", func(m *api.Machine) { m.Memory.Frames[2].Index = 12 }, api.ErrRange},
		{"a free frame that is Used", func(m *api.Machine) { m.Memory.Frames[3].Used = true }, api.ErrFit},
		{"a held frame, freed", func(m *api.Machine) { m.Memory.Frames[0].Refs = 0 }, api.ErrFit},
		{"Hand -1", func(m *api.Machine) { m.Memory.Hand = -1 }, api.ErrRange},
		{"Hand 8", func(m *api.Machine) { m.Memory.Hand = 8 }, api.ErrRange},
		{"61 slots", func(m *api.Machine) { m.Slots = make(api.Slots, 61) }, api.ErrMany},
		{"slot -1", func(m *api.Machine) { m.Slots[0] = -1 }, api.ErrRange},
		{"slot 1001", func(m *api.Machine) { m.Slots[0] = 1001 }, api.ErrRange},
		{"81 blocks of Swap", func(m *api.Machine) { m.Swap.Blocks = make([]api.Page, 81) }, api.ErrMany},
		{"401 wait for Swap", func(m *api.Machine) { m.Swap.Queue = make([]api.Put, 401) }, api.ErrMany},
		{"one waits for block 5 of Swap", func(m *api.Machine) { m.Swap.Queue[0].At = 5 }, api.ErrRange},
		{"81 blocks of Disk", func(m *api.Machine) { m.Disk.Blocks = make([]api.Page, 81) }, api.ErrMany},
		{"401 wait for Disk", func(m *api.Machine) { m.Disk.Queue = make([]api.Put, 401) }, api.ErrMany},
		{"one waits for block 6 of Disk", func(m *api.Machine) { m.Disk.Queue[1].At = 6 }, api.ErrRange},
		{"six files", func(m *api.Machine) { m.Store.Files = make([]api.File, 6) }, api.ErrMany},
		{"Count 81", func(m *api.Machine) { m.Store.Count = 81 }, api.ErrMany},
		{"greatest Count", func(m *api.Machine) { m.Store.Count = math.MaxInt }, api.ErrMany},
		{"Size 97", func(m *api.Machine) { m.Store.Files[0].Size = 97 }, api.ErrRange},
		{"Size 7 of two pages", func(m *api.Machine) { m.Store.Files[3].Size = 7 }, api.ErrForm},
		{"block 6 of a file", func(m *api.Machine) { m.Store.Files[0].Blocks[1] = 6 }, api.ErrRange},
		{"a block of two files", func(m *api.Machine) { m.Store.Files[1].Blocks[0] = 2 }, api.ErrFit},
	}
}

// brokenDisks are changes after which the disks don't go with slots and files.
func brokenDisks() []change {
	return []change{
		{"a slot more than Swap has blocks", func(m *api.Machine) { m.Slots = append(m.Slots, 0) }, api.ErrFit},
		{"a block of Swap more than slots", func(m *api.Machine) { m.Swap.Blocks = append(m.Swap.Blocks, api.Page{}) }, api.ErrFit},
		{"no Swap", func(m *api.Machine) { m.Swap = api.Disk{} }, api.ErrFit},
		{"a block of Disk more than Count", func(m *api.Machine) { m.Disk.Blocks = append(m.Disk.Blocks, api.Page{}) }, api.ErrFit},
		{"Count more than blocks of Disk", func(m *api.Machine) { m.Store.Count = 7 }, api.ErrFit},
		{"Count less than blocks of Disk", func(m *api.Machine) { m.Store.Count = 5 }, api.ErrFit},
		{"a block of no file has a byte", func(m *api.Machine) { m.Disk.Blocks[1][7] = 1 }, api.ErrFit},
		{"the last block, of no file, has a byte", func(m *api.Machine) { m.Disk.Blocks[5][0] = 255 }, api.ErrFit},
		{"noughts wait for a block of no file", func(m *api.Machine) { m.Disk.Queue[0] = api.Put{At: 1} }, api.ErrFit},
		{"one waits for a block of no file, behind others", func(m *api.Machine) { m.Disk.Queue = append(m.Disk.Queue, api.Put{At: 5, Page: api.Page{1}}) }, api.ErrFit},
		{"a file's block is its no more", func(m *api.Machine) { m.Store.Files[3].Blocks[1] = -1 }, api.ErrFit},
		{"a file's block of noughts, for which one waits, is its no more", func(m *api.Machine) { m.Disk.Blocks[0], m.Store.Files[0].Blocks[2] = api.Page{}, -1 }, api.ErrFit},
	}
}

// brokenSpaces are changes after which processes are wrong by themselves.
func brokenSpaces() []change {
	return []change{
		{"five processes", func(m *api.Machine) { m.Spaces = append(m.Spaces, api.Space{}, api.Space{}) }, api.ErrMany},
		{"17 areas", func(m *api.Machine) { m.Spaces[2].Areas = make([]api.Area, 17) }, api.ErrMany},
		{"an area without pages", func(m *api.Machine) { m.Spaces[0].Areas[2].To = 8 }, api.ErrRange},
		{"an area behind Span", func(m *api.Machine) { m.Spaces[0].Areas[5].To = 65 }, api.ErrRange},
		{"an area, Shared, of no file", func(m *api.Machine) { m.Spaces[0].Areas[0].Shared = true }, api.ErrFit},
		{"an area ahead of the one ahead", func(m *api.Machine) { m.Spaces[2].Areas[1].From = 3 }, api.ErrForm},
		{"a half of seven entries", func(m *api.Machine) { m.Spaces[0].Table[0] = m.Spaces[0].Table[0][:7] }, api.ErrForm},
		{"a half without an entry that is one", func(m *api.Machine) { m.Spaces[2].Table[6] = make([]api.Entry, 8) }, api.ErrForm},
		{"an entry of kind 3", func(m *api.Machine) { m.Spaces[0].Table[0][1].Kind = 3 }, api.ErrKind},
		{"frame 40", func(m *api.Machine) { m.Spaces[0].Table[0][1].N = 40 }, api.ErrRange},
		{"slot 60", func(m *api.Machine) { m.Spaces[0].Table[0][3].N = 60 }, api.ErrRange},
		{"Swapped, and Write", func(m *api.Machine) { m.Spaces[0].Table[0][3].Write = true }, api.ErrFit},
		{"an area, not Live", func(m *api.Machine) { m.Spaces[1].Areas = []api.Area{{From: 3, To: 4, File: -1}} }, api.ErrFit},
		{"an entry, not Live", func(m *api.Machine) { put(m, 1, 1, present(3)) }, api.ErrFit},
		{"a process, not Live any more", func(m *api.Machine) { m.Spaces[2].Live = false }, api.ErrFit},
		{"all processes, not Live any more", func(m *api.Machine) { m.Spaces[0].Live, m.Spaces[2].Live = false, false }, api.ErrFit},
	}
}

// brokenCache are changes after which Cache is wrong.
func brokenCache() []change {
	return []change{
		{"file -1 in Cache", func(m *api.Machine) { m.Cache[0].File = -1 }, api.ErrRange},
		{"file 4 of four in Cache", func(m *api.Machine) { m.Cache[2].File = 4 }, api.ErrRange},
		{"least file in Cache", func(m *api.Machine) { m.Cache[2].File = math.MinInt }, api.ErrRange},
		{"greatest file in Cache", func(m *api.Machine) { m.Cache[2].File = math.MaxInt }, api.ErrRange},
		{"page -1 in Cache", func(m *api.Machine) { m.Cache[0].Index = -1 }, api.ErrRange},
		{"page 3 of three in Cache", func(m *api.Machine) { m.Cache[1].Index = 3 }, api.ErrRange},
		{"page 1 of one in Cache", func(m *api.Machine) { m.Cache[2].Index = 1 }, api.ErrRange},
		{"page 0 of none in Cache", func(m *api.Machine) { m.Cache[2].File = 2 }, api.ErrRange},
		{"greatest page in Cache", func(m *api.Machine) { m.Cache[2].Index = math.MaxInt }, api.ErrRange},
		{"frame -1 in Cache", func(m *api.Machine) { m.Cache[0].Frame = -1 }, api.ErrRange},
		{"frame 8 of eight in Cache", func(m *api.Machine) { m.Cache[2].Frame = 8 }, api.ErrRange},
		{"least frame in Cache", func(m *api.Machine) { m.Cache[2].Frame = math.MinInt }, api.ErrRange},
		{"greatest frame in Cache", func(m *api.Machine) { m.Cache[2].Frame = math.MaxInt }, api.ErrRange},
		{"a free frame in Cache", func(m *api.Machine) { m.Cache[2].Frame = 3 }, api.ErrFit},
		{"a frame of no file in Cache", func(m *api.Machine) { m.Cache[2].Frame = 0 }, api.ErrFit},
		{"a frame of another file in Cache", func(m *api.Machine) { m.Cache[2].Frame = 5 }, api.ErrFit},
		{"a frame of another page in Cache", func(m *api.Machine) { m.Cache[0].Frame = 2 }, api.ErrFit},
		{"a frame in Cache of a file less", func(m *api.Machine) { m.Memory.Frames[4].File = 0 }, api.ErrFit},
		{"a place twice in Cache", func(m *api.Machine) { m.Cache = slices.Insert(m.Cache, 1, m.Cache[0]) }, api.ErrForm},
		{"the last place twice in Cache", func(m *api.Machine) { m.Cache = append(m.Cache, m.Cache[2]) }, api.ErrForm},
		{"pages of Cache falling", func(m *api.Machine) { m.Cache[0], m.Cache[1] = m.Cache[1], m.Cache[0] }, api.ErrForm},
		{"files of Cache falling, pages rising", func(m *api.Machine) { m.Cache = []api.Cached{m.Cache[2], m.Cache[1]} }, api.ErrForm},
		{"files of Cache falling, pages the same", func(m *api.Machine) { m.Cache = []api.Cached{m.Cache[2], m.Cache[0]} }, api.ErrForm},
		// Place by place; of one the range ahead of the rest, and the order at last.
		{"a page -1 of a free frame in Cache", func(m *api.Machine) { m.Cache[0].Index, m.Cache[0].Frame = -1, 3 }, api.ErrRange},
		{"a free frame ahead of file 9 in Cache", func(m *api.Machine) { m.Cache[0].Frame, m.Cache[1].File = 3, 9 }, api.ErrFit},
		{"a place twice ahead of file 9 in Cache", func(m *api.Machine) { m.Cache[1], m.Cache[2].File = m.Cache[0], 9 }, api.ErrForm},
		{"a place twice, of a free frame", func(m *api.Machine) { m.Cache[1] = api.Cached{Frame: 3} }, api.ErrFit},
		{"a falling place of no page", func(m *api.Machine) { m.Cache[2] = api.Cached{Index: -1, Frame: 4} }, api.ErrRange},
	}
}

// recount has frames and slots of m say how often they are held; a frame that nobody holds is free.
func recount(m *api.Machine) {
	held := map[api.Entry]int{}
	for _, c := range m.Cache {
		held[present(c.Frame)]++
	}
	for _, s := range m.Spaces {
		for _, half := range s.Table {
			for _, e := range half {
				e.Write = false
				held[e]++
			}
		}
	}
	for k := range m.Memory.Frames {
		m.Memory.Frames[k].Refs = held[present(k)]
		if held[present(k)] == 0 {
			m.Memory.Frames[k] = api.Frame{File: -1}
		}
	}
	for k := range m.Slots {
		m.Slots[k] = held[swapped(k)]
	}
}

// brokenPages are changes after which an entry doesn't go with its area, frame or slot, though all is held as often as it says.
func brokenPages() []change {
	l := []change{
		{"a page in no area", func(m *api.Machine) { put(m, 0, 12, present(1)) }, api.ErrNone},
		{"a page in no area, in a slot", func(m *api.Machine) { put(m, 2, 0, swapped(1)) }, api.ErrNone},
		{"a page right behind an area", func(m *api.Machine) { put(m, 2, 4, present(1)) }, api.ErrNone},
		{"a page of another process's area", func(m *api.Machine) { put(m, 2, 7, present(2)) }, api.ErrNone},
		{"no areas", func(m *api.Machine) { m.Spaces[2].Areas = nil }, api.ErrNone},
		{"slot 5 of five", func(m *api.Machine) { put(m, 0, 3, swapped(5)) }, api.ErrFit},
		{"slot 59 of five", func(m *api.Machine) { put(m, 2, 41, swapped(59)) }, api.ErrFit},
		{"a slot in a Shared area", func(m *api.Machine) { put(m, 0, 7, swapped(1)) }, api.ErrFit},
		{"frame 8 of eight", func(m *api.Machine) { put(m, 0, 1, present(8)) }, api.ErrRange},
		{"frame 39 of eight, Write, where nothing may be written", func(m *api.Machine) { put(m, 0, 8, writable(39)) }, api.ErrRange},
		{"a file's frame in an area of none", func(m *api.Machine) { put(m, 0, 4, present(5)) }, api.ErrFit},
		{"another file's frame", func(m *api.Machine) { put(m, 0, 8, present(5)) }, api.ErrFit},
		{"another file's frame, that file's number less", func(m *api.Machine) { put(m, 2, 12, present(4)) }, api.ErrFit},
		{"another page's frame, ahead", func(m *api.Machine) { put(m, 2, 12, present(2)) }, api.ErrFit},
		{"another page's frame, behind", func(m *api.Machine) { put(m, 2, 10, present(2)) }, api.ErrFit},
		{"the frame that would be right without Base", func(m *api.Machine) { put(m, 2, 16, present(5)) }, api.ErrFit},
		{"a frame of no file in a Shared area", func(m *api.Machine) { put(m, 0, 7, present(1)) }, api.ErrFit},
		{"a free frame in a Shared area", func(m *api.Machine) { put(m, 0, 7, present(3)) }, api.ErrFit},
		{"a copy, Write, where nothing may be written", func(m *api.Machine) { m.Spaces[0].Areas[0].Write = false }, api.ErrFit},
		{"a file's frame, Write, where nothing may be written", func(m *api.Machine) { put(m, 2, 16, writable(2)) }, api.ErrFit},
		{"a file's frame, Write, not Shared", func(m *api.Machine) { put(m, 2, 10, writable(5)) }, api.ErrFit},
		{"a file's frame, Write, not Shared any more", func(m *api.Machine) { m.Spaces[0].Areas[1].Shared = false }, api.ErrFit},
		{"a copy of two, Write", func(m *api.Machine) { put(m, 0, 2, writable(1)) }, api.ErrFit},
		{"a copy of two, Write in the other one", func(m *api.Machine) { put(m, 2, 2, writable(1)) }, api.ErrFit},
		// Process by process, page by page.
		{"a page in no area ahead of frame 8", func(m *api.Machine) { put(m, 0, 0, present(1)); put(m, 0, 1, present(8)) }, api.ErrNone},
		{"frame 8 ahead of a page in no area", func(m *api.Machine) { put(m, 0, 1, present(8)); put(m, 0, 10, present(1)) }, api.ErrRange},
		{"slot 5 ahead of a page in no area", func(m *api.Machine) { put(m, 0, 3, swapped(5)); put(m, 0, 10, present(1)) }, api.ErrFit},
		{"a process's page in no area ahead of another one's frame 8", func(m *api.Machine) { put(m, 0, 62, present(1)); put(m, 2, 1, present(8)) }, api.ErrNone},
		{"a process's frame 8 ahead of another one's page in no area", func(m *api.Machine) { put(m, 0, 31, present(8)); put(m, 2, 0, present(1)) }, api.ErrRange},
		{"frame 8, in no area", func(m *api.Machine) { put(m, 0, 0, present(8)) }, api.ErrNone},
		{"slot 5, in no area", func(m *api.Machine) { put(m, 0, 0, swapped(5)) }, api.ErrNone},
	}
	for i, c := range l {
		l[i].do = func(m *api.Machine) { c.do(m); recount(m) }
	}
	return l
}

// brokenCounts are changes after which something is held more often, or less often, than it says.
func brokenCounts() []change {
	return []change{
		{"a frame one more", func(m *api.Machine) { m.Memory.Frames[0].Refs = 2; put(m, 0, 1, present(0)) }, api.ErrFit},
		{"a frame of two one more", func(m *api.Machine) { m.Memory.Frames[1].Refs = 3 }, api.ErrFit},
		{"a frame of two one less", func(m *api.Machine) { m.Memory.Frames[1].Refs = 1 }, api.ErrFit},
		{"a file's frame one more", func(m *api.Machine) { m.Memory.Frames[2].Refs = 4 }, api.ErrFit},
		{"a file's frame without Cache's one", func(m *api.Machine) { m.Memory.Frames[2].Refs = 2 }, api.ErrFit},
		{"a frame in Cache alone one more", func(m *api.Machine) { m.Memory.Frames[4].Refs = 2 }, api.ErrFit},
		{"a frame of nobody", func(m *api.Machine) { m.Memory.Frames[3].Refs = 1 }, api.ErrFit},
		{"the last frame of nobody", func(m *api.Machine) { m.Memory.Frames = append(m.Memory.Frames, api.Frame{Refs: 1, File: -1}) }, api.ErrFit},
		{"a free frame of somebody", func(m *api.Machine) { put(m, 0, 4, present(3)) }, api.ErrFit},
		{"a free frame of somebody, Write", func(m *api.Machine) { put(m, 0, 4, writable(6)) }, api.ErrFit},
		{"an entry less", func(m *api.Machine) { put(m, 2, 2, api.Entry{}) }, api.ErrFit},
		{"an entry more", func(m *api.Machine) { put(m, 2, 1, present(1)) }, api.ErrFit},
		{"a file's entry more", func(m *api.Machine) { put(m, 0, 5, present(5)) }, api.ErrFit},
		{"a place in Cache less", func(m *api.Machine) { m.Cache = m.Cache[:2] }, api.ErrFit},
		{"no Cache", func(m *api.Machine) { m.Cache = nil }, api.ErrFit},
		{"a file's frame held by nobody's Cache, and counted so", func(m *api.Machine) { m.Cache, m.Memory.Frames[5].Refs = m.Cache[1:], 1 }, api.ErrFit},
		{"frame 0 of a file, in no place of Cache, and counted so", func(m *api.Machine) {
			m.Memory.Frames[0] = api.Frame{Refs: 1, File: 0, Index: 2}
			put(m, 0, 1, api.Entry{})
			put(m, 0, 7, present(0))
		}, api.ErrFit},
		{"a file's page in two frames", func(m *api.Machine) { m.Memory.Frames[3] = m.Memory.Frames[5]; put(m, 2, 10, present(3)) }, api.ErrFit},
		{"a file's page in two frames, and counted so", func(m *api.Machine) {
			m.Memory.Frames[3] = m.Memory.Frames[5]
			m.Memory.Frames[3].Refs, m.Memory.Frames[5].Refs = 1, 1
			put(m, 2, 10, present(3))
		}, api.ErrFit},
		{"a slot one more", func(m *api.Machine) { m.Slots[3] = 2 }, api.ErrFit},
		{"a slot of two one less", func(m *api.Machine) { m.Slots[1] = 1 }, api.ErrFit},
		{"a slot of nobody", func(m *api.Machine) { m.Slots[0] = 1 }, api.ErrFit},
		{"the last slot of nobody", func(m *api.Machine) { m.Slots[4] = 1000 }, api.ErrFit},
		{"a free slot of somebody", func(m *api.Machine) { put(m, 0, 4, swapped(4)) }, api.ErrFit},
		{"a slot's entry more", func(m *api.Machine) { put(m, 2, 40, swapped(1)) }, api.ErrFit},
		{"a slot's entry less", func(m *api.Machine) { m.Spaces[0].Table[7] = nil }, api.ErrFit},
		{"another slot's entry", func(m *api.Machine) { put(m, 0, 63, swapped(2)) }, api.ErrFit},
		{"a frame's entry for a slot's", func(m *api.Machine) { put(m, 0, 3, present(1)) }, api.ErrFit},
	}
}

func broken() [][]change {
	return [][]change{brokenParts(), brokenDisks(), brokenSpaces(), brokenCache(), brokenPages(), brokenCounts()}
}

// rightChanges are changes of sample after which it is as right as it was.
func rightChanges() []change {
	return []change{
		{"nothing", func(m *api.Machine) {}, api.OK},
		{"other bytes", func(m *api.Machine) { m.Memory.Frames[2].Page, m.Disk.Blocks[2] = api.Page{1}, api.Page{2} }, api.OK},
		{"other flags", func(m *api.Machine) { m.Memory.Frames[1].Dirty, m.Memory.Frames[4].Used = true, false }, api.OK},
		{"another hand", func(m *api.Machine) { m.Memory.Hand = 7 }, api.OK},
		{"bytes on Swap that nobody has", func(m *api.Machine) { m.Swap.Blocks[4] = api.Page{1} }, api.OK},
		{"one waits for a block of Swap that nobody has", func(m *api.Machine) { m.Swap.Queue[0].At = 0 }, api.OK},
		{"noughts in a block that is a file's", func(m *api.Machine) { m.Disk.Blocks[2] = api.Page{} }, api.OK},
		{"bytes in all blocks that are files'", func(m *api.Machine) { m.Store.Files[0].Blocks[1], m.Disk.Blocks[5] = 5, api.Page{5} }, api.OK},
		{"an entry, not Write where it may", func(m *api.Machine) { put(m, 0, 1, present(0)); put(m, 0, 6, present(2)) }, api.OK},
		{"another slot for both", func(m *api.Machine) {
			put(m, 0, 3, swapped(4))
			put(m, 2, 3, swapped(4))
			m.Slots[1], m.Slots[4] = 0, 2
		}, api.OK},
		{"another frame", func(m *api.Machine) {
			m.Memory.Frames[3], m.Memory.Frames[0] = m.Memory.Frames[0], m.Memory.Frames[3]
			put(m, 0, 1, writable(3))
		}, api.OK},
		{"a frame of a page that may not be used", func(m *api.Machine) {
			m.Memory.Frames[3] = api.Frame{Refs: 1, File: -1}
			m.Slots[3] = 0
			put(m, 0, 63, present(3))
		}, api.OK},
		{"a copy of a file's page behind its end", func(m *api.Machine) {
			m.Memory.Frames[3] = api.Frame{Refs: 1, File: -1}
			put(m, 0, 9, present(3))
		}, api.OK},
		{"a copy of a page of no file that is there", func(m *api.Machine) {
			m.Memory.Frames[3] = api.Frame{Refs: 1, File: -1}
			put(m, 0, 30, writable(3))
		}, api.OK},
		{"a copy twice in one process", func(m *api.Machine) { put(m, 2, 1, present(1)); m.Memory.Frames[1].Refs = 3 }, api.OK},
		{"a file's page twice in one process", func(m *api.Machine) {
			put(m, 0, 5, writable(5))
			m.Memory.Frames[5].Refs = 3
		}, api.OK},
		{"a fourth process", func(m *api.Machine) { m.Spaces = append(m.Spaces, api.Space{Live: true}) }, api.OK},
		{"no process", func(m *api.Machine) {
			*m, _ = New(api.Config{Frames: 1, Slots: 1, Blocks: 1})
			m.Spaces = nil
		}, api.OK},
		{"of all things as many as there may be", func(m *api.Machine) { *m = full() }, api.OK},
		{"nothing at all", func(m *api.Machine) { *m = nothing() }, api.OK},
	}
}

// with is sample when changes have been done to it.
func with(l ...change) api.Machine {
	m := sample()
	for _, c := range l {
		c.do(&m)
	}
	return m
}

// allMachines are those of all changes, right and wrong ones.
func allMachines() []api.Machine {
	var l []api.Machine
	for _, some := range append(broken(), rightChanges()) {
		for _, c := range some {
			l = append(l, with(c))
		}
	}
	return l
}

// Promise H1.

func TestNew(t *testing.T) {
	for _, c := range []api.Config{{}, {Frames: 1}, {Slots: 1}, {Blocks: 1}, {Frames: 3, Slots: 2, Blocks: 4}, {Frames: 40}, {Slots: 60}, {Blocks: 80}, {Frames: 40, Slots: 60, Blocks: 80}} {
		m, err := New(c)
		want := api.Machine{
			Memory: api.Memory{Frames: slices.Repeat([]api.Frame{{File: -1}}, c.Frames)},
			Slots:  make(api.Slots, c.Slots),
			Swap:   api.Disk{Blocks: make([]api.Page, c.Slots)},
			Disk:   api.Disk{Blocks: make([]api.Page, c.Blocks)},
			Store:  api.Store{Count: c.Blocks},
			Spaces: []api.Space{{Live: true}},
		}
		if err != api.OK || !same(m, want) {
			t.Errorf("New(%+v) is %s, errno %d", c, show(m), err)
		}
		if err := Wrong(m); err != api.OK {
			t.Errorf("New(%+v) is wrong: %d", c, err)
		}
	}
}

func TestNewRefuses(t *testing.T) {
	for _, n := range []int{-1, 81, 1000, math.MinInt, math.MaxInt} {
		for _, c := range []api.Config{{Frames: n}, {Slots: n}, {Blocks: n}, {Frames: 40, Slots: 60, Blocks: n}, {Frames: n, Slots: 1, Blocks: n}, {Frames: n, Slots: n, Blocks: n}} {
			if m, err := New(c); err != api.ErrMany || !isNothing(m) {
				t.Errorf("New(%+v) is %s, errno %d", c, show(m), err)
			}
		}
	}
	// Each has an end of its own.
	for _, c := range []api.Config{{Frames: 41}, {Slots: 61}, {Frames: 60, Slots: 60, Blocks: 60}, {Frames: 40, Slots: 80, Blocks: 80}} {
		if m, err := New(c); err != api.ErrMany || !isNothing(m) {
			t.Errorf("New(%+v) is %s, errno %d", c, show(m), err)
		}
	}
}

// TestOwn: Own asks nothing of what it copies.
func TestOwn(t *testing.T) {
	for _, m := range allMachines() {
		if x := Own(m); !same(x, m) {
			t.Errorf("the copy of %s is %s", show(m), show(x))
		}
	}
}

// Promise H2.

func TestWrong(t *testing.T) {
	for _, some := range append(broken(), rightChanges()) {
		for _, c := range some {
			if err := Wrong(with(c)); err != c.want {
				t.Errorf("%s: Wrong is %d, not %d", c.name, err, c.want)
			}
		}
	}
}

// TestWrongInTurn: of two things that are wrong the one is told that is asked for first.
func TestWrongInTurn(t *testing.T) {
	inTurn := []change{
		{"Hand 8", func(m *api.Machine) { m.Memory.Hand = 8 }, api.ErrRange},
		{"61 slots", func(m *api.Machine) { m.Slots = make(api.Slots, 61) }, api.ErrMany},
		{"one waits for block 60 of Swap", func(m *api.Machine) { m.Swap.Queue[0].At = 60 }, api.ErrRange},
		{"401 wait for Disk", func(m *api.Machine) { m.Disk.Queue = append(m.Disk.Queue, make([]api.Put, 398)...) }, api.ErrMany},
		{"a page more than bytes", func(m *api.Machine) { m.Store.Files[2].Blocks = []int{-1} }, api.ErrForm},
		{"a block of no file has a byte", func(m *api.Machine) { m.Disk.Blocks[1][7] = 1 }, api.ErrFit},
		{"five processes", func(m *api.Machine) { m.Spaces = append(m.Spaces, api.Space{}, api.Space{}) }, api.ErrMany},
		{"an area behind Span", func(m *api.Machine) { m.Spaces[0].Areas[5].To = 65 }, api.ErrRange},
		{"an entry of kind 3", func(m *api.Machine) { put(m, 0, 4, api.Entry{Kind: 3}) }, api.ErrKind},
		{"an entry, not Live", func(m *api.Machine) { put(m, 1, 1, present(3)) }, api.ErrFit},
		{"a half of seven entries", func(m *api.Machine) { m.Spaces[2].Table[7] = make([]api.Entry, 7) }, api.ErrForm},
		{"frame 8 in Cache", func(m *api.Machine) { m.Cache[0].Frame = 8 }, api.ErrRange},
		{"a place twice in Cache", func(m *api.Machine) { m.Cache[2] = m.Cache[1] }, api.ErrForm},
		{"slot 6", func(m *api.Machine) { put(m, 0, 3, swapped(6)) }, api.ErrFit},
		{"frame 8", func(m *api.Machine) { put(m, 0, 9, present(8)) }, api.ErrRange},
		{"a page in no area", func(m *api.Machine) { put(m, 2, 60, present(2)) }, api.ErrNone},
		{"a slot of nobody", func(m *api.Machine) { m.Slots[4] = 2 }, api.ErrFit},
	}
	for i, first := range inTurn {
		for _, then := range inTurn[i+1:] {
			if err := Wrong(with(first, then)); err != first.want {
				t.Errorf("%s, %s: Wrong is %d, not %d", first.name, then.name, err, first.want)
			}
		}
	}
}

// TestWrongSpacesInTurn: of one process areas, table and Live, ahead of all of the next one.
func TestWrongSpacesInTurn(t *testing.T) {
	of := func(p int) []change {
		return []change{
			{"area without pages", func(m *api.Machine) { m.Spaces[p].Areas = append(m.Spaces[p].Areas, api.Area{From: 64, To: 64}) }, api.ErrRange},
			{"a short half", func(m *api.Machine) { m.Spaces[p].Table[4] = make([]api.Entry, 3) }, api.ErrForm},
			{"not Live", func(m *api.Machine) { m.Spaces[p].Live = false }, api.ErrFit},
		}
	}
	inTurn := append(of(0), of(2)...)
	for i, first := range inTurn {
		for _, then := range inTurn[i:] {
			if err := Wrong(with(first, then)); err != first.want {
				t.Errorf("%s, %s: Wrong is %d, not %d", first.name, then.name, err, first.want)
			}
		}
	}
}

// Promise H3.

// fileBytes are the bytes of sample's files: page by page those of a frame, of a block, or noughts.
func fileBytes() [][]byte {
	return [][]byte{
		{65, 0, 0, 0, 0, 0, 0, 0, 60, 61, 62, 0, 0, 0, 0, 0, 11, 12, 13, 14},
		{63, 0, 0, 0, 0, 0, 0, 64},
		{},
		{0, 0, 0, 0, 0, 0, 0, 0, 31, 32},
	}
}

func TestBytes(t *testing.T) {
	for file, want := range fileBytes() {
		b, err := Bytes(sample(), file)
		if err != api.OK || !slices.Equal(b, want) {
			t.Errorf("Bytes of file %d is %v, errno %d; not %v", file, b, err, want)
		}
	}
	for _, file := range []int{-1, 4, 5, math.MinInt, math.MaxInt} {
		if b, err := Bytes(sample(), file); err != api.ErrNone || b != nil {
			t.Errorf("Bytes of file %d is %v, errno %d", file, b, err)
		}
	}
	if b, err := Bytes(nothing(), 0); err != api.ErrNone || b != nil {
		t.Errorf("Bytes of a file of nothing is %v, errno %d", b, err)
	}
}

// TestBytesOfBlocks: without a cache the files are what the disk reads, the last one that waits ahead of the block.
func TestBytesOfBlocks(t *testing.T) {
	m := sample()
	m.Memory.Frames = slices.Repeat([]api.Frame{{File: -1}}, 8)
	m.Cache, m.Spaces, m.Slots = nil, nil, make(api.Slots, 5)
	for file, want := range [][]byte{
		{1, 2, 3, 4, 5, 6, 7, 8, 0, 0, 0, 0, 0, 0, 0, 0, 11, 12, 13, 14},
		{22, 0, 0, 0, 0, 0, 0, 0},
		{},
		{0, 0, 0, 0, 0, 0, 0, 0, 31, 32},
	} {
		if b, err := Bytes(m, file); err != api.OK || !slices.Equal(b, want) {
			t.Errorf("Bytes of file %d is %v, errno %d; not %v", file, b, err, want)
		}
	}
}

func TestBytesOfEverySize(t *testing.T) {
	blocks := []api.Page{{17, 18, 19, 20, 21, 22, 23, 24}, {1, 2, 3, 4, 5, 6, 7, 8}, {9, 10, 11, 12, 13, 14, 15, 16}}
	for size := range 25 {
		m, _ := New(api.Config{Blocks: 3})
		has := []int{1, 2, 0}[:(size+7)/8]
		for _, b := range has {
			m.Disk.Blocks[b] = blocks[b]
		}
		m.Store.Files = []api.File{{Size: size, Blocks: has}}
		var want []byte
		for i := range size {
			want = append(want, byte(i+1))
		}
		if b, err := Bytes(m, 0); err != api.OK || !slices.Equal(b, want) {
			t.Errorf("%d bytes are %v, errno %d", size, b, err)
		}
	}
}

type seen struct {
	page api.Page
	copy bool
	err  api.Errno
}

// views are what is seen of sample's pages; of all others that there are none.
func views() map[[2]int]seen {
	return map[[2]int]seen{
		{0, 1}:  {api.Page{50, 51}, true, api.OK},
		{0, 2}:  {api.Page{52}, true, api.OK},
		{0, 3}:  {api.Page{70, 71}, true, api.OK},
		{0, 4}:  {api.Page{}, false, api.OK},
		{0, 5}:  {api.Page{65}, false, api.OK},
		{0, 6}:  {api.Page{60, 61, 62}, false, api.OK},
		{0, 7}:  {api.Page{11, 12, 13, 14}, false, api.OK},
		{0, 8}:  {api.Page{63, 0, 0, 0, 0, 0, 0, 64}, false, api.OK},
		{0, 9}:  {err: api.ErrEnd},
		{0, 20}: {err: api.ErrEnd},
		{0, 30}: {err: api.ErrEnd},
		{0, 31}: {err: api.ErrEnd},
		{0, 63}: {api.Page{72}, true, api.OK},
		{2, 1}:  {api.Page{}, false, api.OK},
		{2, 2}:  {api.Page{52}, true, api.OK},
		{2, 3}:  {api.Page{70, 71}, true, api.OK},
		{2, 10}: {api.Page{65}, false, api.OK},
		{2, 11}: {api.Page{53}, true, api.OK},
		{2, 12}: {api.Page{11, 12, 13, 14}, false, api.OK},
		{2, 16}: {api.Page{60, 61, 62}, false, api.OK},
		{2, 40}: {api.Page{}, false, api.OK},
		{2, 41}: {api.Page{31, 32}, false, api.OK},
	}
}

func viewed(m api.Machine, p, n int) seen {
	page, copied, err := View(m, p, n)
	return seen{page, copied, err}
}

func TestView(t *testing.T) {
	m, want := sample(), views()
	for p := -2; p < 6; p++ {
		for n := -3; n < 70; n++ {
			w, ok := want[[2]int{p, n}]
			if !ok {
				w.err = api.ErrNone
			}
			if got := viewed(m, p, n); got != w {
				t.Errorf("page %d of process %d is %v, not %v", n, p, got, w)
			}
		}
	}
	for _, x := range [][2]int{{math.MinInt, 1}, {math.MaxInt, 1}, {0, math.MinInt}, {0, math.MaxInt}, {math.MaxInt, math.MaxInt}} {
		if got := viewed(m, x[0], x[1]); got != (seen{err: api.ErrNone}) {
			t.Errorf("page %d of process %d is %v", x[1], x[0], got)
		}
	}
}

// TestViewBehindTheEnd: what is a copy is seen, though the file's page, if there is one, lies behind its end.
func TestViewBehindTheEnd(t *testing.T) {
	m := sample()
	m.Memory.Frames[3] = api.Frame{Page: api.Page{3}, Refs: 1, File: -1}
	m.Slots[4], m.Swap.Blocks[4] = 1, api.Page{4}
	put(&m, 0, 9, present(3))
	put(&m, 0, 30, swapped(4))
	if got, want := viewed(m, 0, 9), (seen{api.Page{3}, true, api.OK}); got != want {
		t.Errorf("in a frame it is %v, not %v", got, want)
	}
	if got, want := viewed(m, 0, 30), (seen{api.Page{4}, true, api.OK}); got != want {
		t.Errorf("in a slot it is %v, not %v", got, want)
	}
	if got, want := viewed(m, 0, 31), (seen{err: api.ErrEnd}); got != want {
		t.Errorf("nowhere it is %v, not %v", got, want)
	}
}

// TestFrameOfACutFile: a frame is seen as it is, a block only up to the file's size.
func TestFrameOfACutFile(t *testing.T) {
	m := sample()
	m.Store.Files[1].Size = 3
	m.Store.Files[3].Size = 9
	if got, want := viewed(m, 0, 8), (seen{api.Page{63, 0, 0, 0, 0, 0, 0, 64}, false, api.OK}); got != want {
		t.Errorf("in a frame it is %v, not %v", got, want)
	}
	if b, err := Bytes(m, 1); err != api.OK || !slices.Equal(b, []byte{63, 0, 0}) {
		t.Errorf("the file is %v, errno %d", b, err)
	}
	if got, want := viewed(m, 2, 41), (seen{api.Page{31}, false, api.OK}); got != want {
		t.Errorf("in a block it is %v, not %v", got, want)
	}
}

func TestWrongMachinesAreRefused(t *testing.T) {
	for _, some := range broken() {
		for _, c := range some {
			m := with(c)
			// The machine's error comes ahead of the numbers'.
			for _, n := range []int{0, 2, -1, 5, math.MinInt, math.MaxInt} {
				if b, err := Bytes(m, n); err != c.want || b != nil {
					t.Errorf("%s: Bytes of file %d is %v, errno %d, not %d", c.name, n, b, err, c.want)
				}
				for _, p := range []int{0, 1, -1, 9} {
					if got := viewed(m, p, n); got != (seen{err: c.want}) {
						t.Errorf("%s: page %d of process %d is %v, not errno %d", c.name, n, p, got, c.want)
					}
				}
			}
		}
	}
}

func TestExampleOfTheDocument(t *testing.T) {
	m, err := New(api.Config{Frames: 3, Slots: 2, Blocks: 4})
	if err != api.OK || len(m.Memory.Frames) != 3 || len(m.Slots) != 2 || len(m.Swap.Blocks) != 2 || len(m.Disk.Blocks) != 4 || m.Store.Count != 4 || Wrong(m) != api.OK {
		t.Errorf("three frames, two slots and four blocks are %s, errno %d", show(m), err)
	}
}

// TestStored: what is on the disk is told whatever is in the cache, and of pages that are not there noughts are.
func TestStored(t *testing.T) {
	for _, c := range []struct {
		file, index int
		want        api.Page
	}{
		{0, 0, api.Page{1, 2, 3, 4, 5, 6, 7, 8}}, {0, 1, api.Page{}}, {0, 2, api.Page{11, 12, 13, 14}}, {1, 0, api.Page{22}}, {3, 1, api.Page{31, 32}},
		{0, 3, api.Page{}}, {0, -1, api.Page{}}, {2, 0, api.Page{}}, {4, 0, api.Page{}}, {-1, 0, api.Page{}}, {math.MaxInt, math.MinInt, api.Page{}},
	} {
		if p := Stored(sample(), c.file, c.index); p != c.want {
			t.Errorf("page %d of file %d is stored as %v, not %v", c.index, c.file, p, c.want)
		}
	}
}
