package fault

import (
	"math"
	"slices"
	"testing"

	"pagewright/api"
	"pagewright/machine"
	"pagewright/table"
)

func present(n int) api.Entry { return api.Entry{Kind: api.Present, N: n} }

func writable(n int) api.Entry { return api.Entry{Kind: api.Present, N: n, Write: true} }

func swapped(n int) api.Entry { return api.Entry{Kind: api.Swapped, N: n} }

// lay gives page n of process p the entry e.
func lay(m *api.Machine, p, n int, e api.Entry) {
	m.Spaces[p].Table, _ = table.Set(m.Spaces[p].Table, n, e)
}

// sample is a right machine of which each kind of page has one at least; frames 5 and 6 are free, and slots 0 and 3.
func sample() api.Machine {
	m, _ := machine.New(api.Config{Frames: 8, Slots: 4, Blocks: 6})
	free := api.Frame{File: -1}
	m.Memory.Frames = []api.Frame{
		{Page: api.Page{50, 51}, Refs: 1, Used: true, File: -1},
		{Page: api.Page{52}, Refs: 2, File: -1},
		{Page: api.Page{60, 61, 62}, Refs: 3, Dirty: true, File: 0, Index: 1},
		{Page: api.Page{65}, Refs: 2, File: 0},
		{Page: api.Page{63, 0, 0, 0, 0, 0, 0, 64}, Refs: 1, Used: true, File: 1},
		free,
		free,
		{Page: api.Page{53}, Refs: 1, File: -1},
	}
	m.Slots = api.Slots{0, 2, 1, 0}
	m.Swap.Blocks = []api.Page{{90}, {70, 71}, {91}, {92}}
	m.Swap.Queue = []api.Put{{At: 2, Page: api.Page{93}}, {At: 0, Page: api.Page{94}}, {At: 2, Page: api.Page{72}}}
	m.Store.Files = []api.File{{Size: 20, Blocks: []int{2, -1, 0}}, {Size: 8, Blocks: []int{4}}, {}, {Size: 10, Blocks: []int{-1, 3}}}
	m.Disk.Blocks = []api.Page{{9, 9}, {}, {1, 2, 3, 4, 5, 6, 7, 8}, {31, 32, 33, 34}, {21}, {}}
	m.Disk.Queue = []api.Put{{At: 4, Page: api.Page{22}}, {At: 0, Page: api.Page{11, 12, 13, 14, 15, 16, 17, 18}}}
	m.Cache = []api.Cached{{File: 0, Index: 0, Frame: 3}, {File: 0, Index: 1, Frame: 2}, {File: 1, Index: 0, Frame: 4}}
	m.Spaces = []api.Space{
		{Live: true, Areas: []api.Area{
			{From: 1, To: 6, Read: true, Write: true, File: -1},
			{From: 6, To: 10, Read: true, Write: true, Shared: true, File: 0},
			{From: 10, To: 12, Read: true, File: 1},
			{From: 12, To: 13, Write: true, File: 1},
			{From: 13, To: 14, Write: true, File: -1},
			{From: 14, To: 15, File: -1},
			{From: 20, To: 21, Read: true, Write: true, File: 2},
			{From: 30, To: 31, Read: true, Write: true, File: 4},
		}},
		{},
		{Live: true, Areas: []api.Area{
			{From: 1, To: 4, Read: true, Write: true, File: -1},
			{From: 10, To: 14, Read: true, Write: true, File: 0},
			{From: 16, To: 17, Read: true, Shared: true, File: 0, Base: 1},
			{From: 40, To: 43, Read: true, Write: true, File: 3},
		}},
	}
	lay(&m, 0, 1, writable(0))
	lay(&m, 0, 2, present(1))
	lay(&m, 0, 3, swapped(1))
	lay(&m, 0, 4, swapped(2))
	lay(&m, 0, 7, writable(2))
	lay(&m, 2, 2, present(1))
	lay(&m, 2, 3, swapped(1))
	lay(&m, 2, 10, present(3))
	lay(&m, 2, 13, present(7))
	lay(&m, 2, 16, present(2))
	return m
}

// used is a page that is used, and what comes of it: in which frame it is, of what, and how often that is held.
type used struct {
	name  string
	p, n  int
	write bool
	frame int
	want  api.Frame
}

// uses are those of sample, each by itself. The first free frame is 5.
func uses() []used {
	return []used{
		{"a copy of one's own, read", 0, 1, false, 0, api.Frame{Page: api.Page{50, 51}, Refs: 1, Used: true, File: -1}},
		{"a copy of one's own, written", 0, 1, true, 0, api.Frame{Page: api.Page{50, 51}, Refs: 1, Used: true, File: -1}},
		{"a copy of one's own that is not Write, written", 2, 13, true, 7, api.Frame{Page: api.Page{53}, Refs: 1, Used: true, File: -1}},
		{"a copy of two, read", 0, 2, false, 1, api.Frame{Page: api.Page{52}, Refs: 2, Used: true, File: -1}},
		{"a copy of two, written", 0, 2, true, 5, api.Frame{Page: api.Page{52}, Refs: 1, Used: true, File: -1}},
		{"a slot of two, read", 0, 3, false, 5, api.Frame{Page: api.Page{70, 71}, Refs: 2, Used: true, File: -1}},
		{"a slot of two, written", 2, 3, true, 5, api.Frame{Page: api.Page{70, 71}, Refs: 1, Used: true, File: -1}},
		{"a slot of one, read", 0, 4, false, 5, api.Frame{Page: api.Page{72}, Refs: 1, Used: true, File: -1}},
		{"a slot of one, written", 0, 4, true, 5, api.Frame{Page: api.Page{72}, Refs: 1, Used: true, File: -1}},
		{"nothing, read", 0, 5, false, 5, api.Frame{Refs: 1, Used: true, File: -1}},
		{"nothing, written", 0, 5, true, 5, api.Frame{Refs: 1, Used: true, File: -1}},
		{"nothing that may not be read, written", 0, 13, true, 5, api.Frame{Refs: 1, Used: true, File: -1}},
		{"a shared page in the cache, read", 0, 6, false, 3, api.Frame{Page: api.Page{65}, Refs: 3, Used: true, File: 0}},
		{"a shared page in the cache, written", 0, 6, true, 3, api.Frame{Page: api.Page{65}, Refs: 3, Used: true, Dirty: true, File: 0}},
		{"a shared page that is Write, read", 0, 7, false, 2, api.Frame{Page: api.Page{60, 61, 62}, Refs: 3, Used: true, Dirty: true, File: 0, Index: 1}},
		{"a shared page that is Write, written", 0, 7, true, 2, api.Frame{Page: api.Page{60, 61, 62}, Refs: 3, Used: true, Dirty: true, File: 0, Index: 1}},
		{"a shared page on the disk, read", 0, 8, false, 5, api.Frame{Page: api.Page{11, 12, 13, 14}, Refs: 2, Used: true, File: 0, Index: 2}},
		{"a shared page on the disk, written", 0, 8, true, 5, api.Frame{Page: api.Page{11, 12, 13, 14}, Refs: 2, Used: true, Dirty: true, File: 0, Index: 2}},
		{"a page of one's own in the cache, read", 0, 10, false, 4, api.Frame{Page: api.Page{63, 0, 0, 0, 0, 0, 0, 64}, Refs: 2, Used: true, File: 1}},
		{"a page of one's own in the cache, written", 0, 12, true, 5, api.Frame{Page: api.Page{63, 0, 0, 0, 0, 0, 0, 64}, Refs: 1, Used: true, File: -1}},
		{"a page of one's own in a file's frame, read", 2, 10, false, 3, api.Frame{Page: api.Page{65}, Refs: 2, Used: true, File: 0}},
		{"a page of one's own in a file's frame, written", 2, 10, true, 5, api.Frame{Page: api.Page{65}, Refs: 1, Used: true, File: -1}},
		{"a page of one's own on the disk, read", 2, 12, false, 5, api.Frame{Page: api.Page{11, 12, 13, 14}, Refs: 2, Used: true, File: 0, Index: 2}},
		{"a page of one's own on the disk, written", 2, 12, true, 5, api.Frame{Page: api.Page{11, 12, 13, 14}, Refs: 1, Used: true, File: -1}},
		{"a copy behind the file's end, read", 2, 13, false, 7, api.Frame{Page: api.Page{53}, Refs: 1, Used: true, File: -1}},
		{"a page without a block, read", 2, 40, false, 5, api.Frame{Refs: 2, Used: true, File: 3}},
		{"a page without a block, written", 2, 40, true, 5, api.Frame{Refs: 1, Used: true, File: -1}},
		{"a file's last page, written", 2, 41, true, 5, api.Frame{Page: api.Page{31, 32}, Refs: 1, Used: true, File: -1}},
	}
}

func TestUse(t *testing.T) {
	for _, u := range uses() {
		m, k, err := check(t, u.name, sample(), u.p, u.n, u.write)
		if err != api.OK {
			t.Errorf("%s: errno %d", u.name, err)
			continue
		}
		if k != u.frame || m.Memory.Frames[k] != u.want {
			t.Errorf("%s: it is in frame %d, %+v; not in frame %d, %+v", u.name, k, m.Memory.Frames[k], u.frame, u.want)
		}
	}
}

// TestUseAgain: what was used once is where it may be used.
func TestUseAgain(t *testing.T) {
	for _, u := range uses() {
		once, k, _ := Use(sample(), u.p, u.n, u.write)
		twice, again, err := check(t, u.name, once, u.p, u.n, u.write)
		if err != api.OK || again != k || show(twice) != show(once) {
			t.Errorf("%s: once it is in frame %d of %s; again in frame %d of %s, errno %d", u.name, k, show(once), again, show(twice), err)
		}
	}
}

// TestWhoWritesWritesAlone: what is stored in the frame that Use answers is seen in no other page, but by those of a shared one.
func TestWhoWritesWritesAlone(t *testing.T) {
	for _, u := range uses() {
		if !u.write {
			continue
		}
		m, k, _ := Use(sample(), u.p, u.n, true)
		before := told(m)
		m.Memory.Frames[k].Page[0] = 200
		for spot, now := range told(m).views {
			shared := m.Memory.Frames[k].File >= 0 && m.Spaces[spot[0]].Areas != nil && seesFrame(m, spot[0], spot[1], k)
			changed := now != before.views[spot]
			if want := spot == [2]int{u.p, u.n} || shared; changed != want {
				t.Errorf("%s: page %d of process %d is %v, and was %v", u.name, spot[1], spot[0], now, before.views[spot])
			}
		}
		for file, b := range told(m).files {
			if changed := !slices.Equal(b, before.files[file]); changed != (m.Memory.Frames[k].File == file) {
				t.Errorf("%s: file %d is %v, and was %v", u.name, file, b, before.files[file])
			}
		}
	}
}

// TestDirtyOnlyIfWritten: who reads a shared page leaves it clean; who writes it, though the entry is Write, and the frame was cleaned, has it Dirty.
func TestDirtyOnlyIfWritten(t *testing.T) {
	m := sample()
	m.Memory.Frames[2].Dirty = false
	for _, write := range []bool{false, true} {
		got, k, err := check(t, "a page that was cleaned", m, 0, 7, write)
		if err != api.OK || got.Memory.Frames[k].Dirty != write {
			t.Errorf("used, write %t: %s, errno %d", write, show(got), err)
		}
	}
}

// TestSlotIsFree: who leaves a slot last leaves it free.
func TestSlotIsFree(t *testing.T) {
	for _, c := range []struct {
		p, n  int
		write bool
		slot  int
		want  int
	}{{0, 3, false, 1, 0}, {0, 3, true, 1, 1}, {2, 3, true, 1, 1}, {0, 4, false, 2, 0}, {0, 4, true, 2, 0}} {
		m, _, err := Use(sample(), c.p, c.n, c.write)
		if err != api.OK || m.Slots[c.slot] != c.want {
			t.Errorf("page %d of process %d is used, write %t: slot %d is held %v, errno %d", c.n, c.p, c.write, c.slot, m.Slots, err)
		}
	}
}

type refusal struct {
	name  string
	p, n  int
	write bool
	want  api.Errno
}

func refusals() []refusal {
	return []refusal{
		{"no process -1", -1, 1, false, api.ErrNone},
		{"no process 3", 3, 1, false, api.ErrNone},
		{"no such process at all", math.MinInt, 1, true, api.ErrNone},
		{"no such process at all", math.MaxInt, 1, true, api.ErrNone},
		{"not Live", 1, 1, false, api.ErrNone},
		{"page 0", 0, 0, false, api.ErrNone},
		{"page -1", 0, -1, true, api.ErrNone},
		{"page 64", 0, 64, false, api.ErrNone},
		{"no such page at all", 0, math.MinInt, true, api.ErrNone},
		{"no such page at all", 0, math.MaxInt, false, api.ErrNone},
		{"between areas", 2, 4, true, api.ErrNone},
		{"behind all areas", 2, 43, false, api.ErrNone},
		{"not Write", 0, 10, true, api.ErrMay},
		{"not Write, shared", 2, 16, true, api.ErrMay},
		{"not Write, and behind the end", 0, 11, true, api.ErrMay},
		{"not Read", 0, 12, false, api.ErrMay},
		{"not Read, of no file", 0, 13, false, api.ErrMay},
		{"neither, read", 0, 14, false, api.ErrMay},
		{"neither, written", 0, 14, true, api.ErrMay},
		{"behind the end, shared, read", 0, 9, false, api.ErrEnd},
		{"behind the end, shared, written", 0, 9, true, api.ErrEnd},
		{"behind the end, read", 0, 11, false, api.ErrEnd},
		{"of a file without bytes, read", 0, 20, false, api.ErrEnd},
		{"of a file without bytes, written", 0, 20, true, api.ErrEnd},
		{"of no file that is there, read", 0, 30, false, api.ErrEnd},
		{"of no file that is there, written", 0, 30, true, api.ErrEnd},
		{"two pages, used as a third", 2, 42, true, api.ErrEnd},
	}
}

func TestRefuses(t *testing.T) {
	for _, r := range refusals() {
		if _, _, err := check(t, r.name, sample(), r.p, r.n, r.write); err != r.want {
			t.Errorf("%s: errno %d, not %d", r.name, err, r.want)
		}
		// That there is no room is told last.
		if _, _, err := check(t, r.name, packed(), r.p, r.n, r.write); err != r.want {
			t.Errorf("%s, and no room: errno %d, not %d", r.name, err, r.want)
		}
	}
}

// packed is sample without room: no frame is free, no slot, and no block, and the files' pages that are in frames have none.
func packed() api.Machine {
	m := sample()
	m.Spaces[2].Areas = append(m.Spaces[2].Areas, api.Area{From: 50, To: 54, Read: true, File: -1})
	for i, k := range []int{5, 6} {
		m.Memory.Frames[k] = api.Frame{Page: api.Page{byte(80 + i)}, Refs: 1, File: -1}
		lay(&m, 2, 50+i, present(k))
	}
	for i, k := range []int{0, 3} {
		m.Slots[k] = 1
		lay(&m, 2, 52+i, swapped(k))
	}
	m.Store.Files[0].Blocks = []int{-1, -1, 0}
	m.Store.Files[1].Blocks = []int{-1}
	m.Store.Files[3].Blocks = []int{-1, 1}
	m.Store.Count, m.Disk.Blocks, m.Disk.Queue = 2, []api.Page{{9, 9}, {31, 32, 33, 34}}, m.Disk.Queue[1:]
	return m
}

// TestNoRoom: without room there is still what needs no frame more, and what leaves a slot of its own to another page.
func TestNoRoom(t *testing.T) {
	full := 0
	for _, u := range uses() {
		leaves := table.Get(sample().Spaces[u.p].Table, u.n).Kind == api.Swapped && u.name != "a slot of two, written"
		want := api.OK
		if u.frame == 5 && !leaves {
			want = api.ErrFull
			full++
		}
		if _, _, err := check(t, u.name, packed(), u.p, u.n, u.write); err != want {
			t.Errorf("%s, without room: errno %d, not %d", u.name, err, want)
		}
	}
	if full != 14 {
		t.Errorf("without room %d are refused, not 14", full)
	}
}

// TestWrongMachines: what is wrong with the machine is told ahead of all else.
func TestWrongMachines(t *testing.T) {
	for _, c := range []struct {
		name string
		do   func(m *api.Machine)
		want api.Errno
	}{
		{"41 frames", func(m *api.Machine) { m.Memory.Frames = make([]api.Frame, 41) }, api.ErrMany},
		{"Hand 8", func(m *api.Machine) { m.Memory.Hand = 8 }, api.ErrRange},
		{"slot -1", func(m *api.Machine) { m.Slots[0] = -1 }, api.ErrRange},
		{"a block that is two pages'", func(m *api.Machine) { m.Store.Files[0].Blocks[1] = 4 }, api.ErrFit},
		{"a page more than bytes", func(m *api.Machine) { m.Store.Files[2].Blocks = []int{-1} }, api.ErrForm},
		{"five processes", func(m *api.Machine) { m.Spaces = append(m.Spaces, api.Space{}, api.Space{}) }, api.ErrMany},
		{"an area behind Span", func(m *api.Machine) { m.Spaces[2].Areas[3].To = 65 }, api.ErrRange},
		{"an entry of kind 3", func(m *api.Machine) { m.Spaces[0].Table[0][5].Kind = 3 }, api.ErrKind},
		{"an area, not Live", func(m *api.Machine) { m.Spaces[0].Live = false }, api.ErrFit},
		{"an entry in no area", func(m *api.Machine) { m.Spaces[0].Table[0][0] = present(1) }, api.ErrNone},
		{"a frame held once more", func(m *api.Machine) { m.Memory.Frames[1].Refs++ }, api.ErrFit},
		{"a slot held once less", func(m *api.Machine) { m.Slots[1]-- }, api.ErrFit},
		{"a file's page not in the cache", func(m *api.Machine) { m.Cache = m.Cache[:2] }, api.ErrFit},
	} {
		m := sample()
		c.do(&m)
		for _, u := range [][2]int{{0, 1}, {0, 5}, {2, 12}, {0, 0}, {0, 9}, {0, 14}, {1, 1}, {-1, -1}, {math.MaxInt, math.MinInt}} {
			for _, write := range []bool{false, true} {
				if got, k, err := Use(m, u[0], u[1], write); err != c.want || k != 0 || !isNothing(got) {
					t.Errorf("%s: page %d of process %d is in frame %d of %s, errno %d; not errno %d", c.name, u[1], u[0], k, show(got), err, c.want)
				}
			}
		}
	}
}

// TestWithoutAnything: a machine that has nothing has no page, and one without frames no room.
func TestWithoutAnything(t *testing.T) {
	if _, _, err := check(t, "nothing at all", api.Machine{}, 0, 0, false); err != api.ErrNone {
		t.Errorf("of nothing it is errno %d", err)
	}
	m, _ := machine.New(api.Config{Slots: 3, Blocks: 3})
	m.Store.Files = []api.File{{Size: 5, Blocks: []int{-1}}}
	m.Spaces[0].Areas = []api.Area{{From: 1, To: 2, Read: true, Write: true, File: -1}, {From: 2, To: 3, Read: true, Write: true, File: 0}, {From: 3, To: 4, Read: true, Write: true, Shared: true, File: 0}}
	for n := range 5 {
		for _, write := range []bool{false, true} {
			want := api.ErrNone
			if n >= 1 && n <= 3 {
				want = api.ErrFull
			}
			if _, _, err := check(t, "without frames", m, 0, n, write); err != want {
				t.Errorf("without frames page %d is errno %d, not %d", n, err, want)
			}
		}
	}
}

func TestExampleOfTheDocument(t *testing.T) {
	m, _ := machine.New(api.Config{Frames: 1})
	m.Spaces[0].Areas = []api.Area{{From: 7, To: 8, Read: true, File: -1}}
	m, k, err := check(t, "the example", m, 0, 7, false)
	if err != api.OK || k != 0 || m.Memory.Frames[0].Refs != 1 || m.Memory.Frames[0].Page != (api.Page{}) || table.Get(m.Spaces[0].Table, 7) != present(0) {
		t.Errorf("a page of an area without a file is in frame %d of %s, errno %d", k, show(m), err)
	}
}
