package fork

import (
	"fmt"
	"math"
	"slices"
	"testing"

	"pagewright/api"
	"pagewright/fault"
	"pagewright/frames"
	"pagewright/machine"
	"pagewright/slots"
	"pagewright/store"
	"pagewright/table"
)

func present(n int) api.Entry { return api.Entry{Kind: api.Present, N: n} }

func writable(n int) api.Entry { return api.Entry{Kind: api.Present, N: n, Write: true} }

func swapped(n int) api.Entry { return api.Entry{Kind: api.Swapped, N: n} }

// lay gives page n of process p the entry e.
func lay(m *api.Machine, p, n int, e api.Entry) {
	m.Spaces[p].Table, _ = table.Set(m.Spaces[p].Table, n, e)
}

// sample is a right machine in which process 0 has each kind of page, and process 2 has some of the same; process 1 is not Live. Frames 5 and 6 are free, and slots 0 and 3.
func sample() api.Machine {
	m, _ := machine.New(api.Config{Frames: 8, Slots: 4, Blocks: 6})
	free := api.Frame{File: -1}
	m.Memory.Frames = []api.Frame{
		{Page: api.Page{50, 51}, Refs: 1, Used: true, File: -1},
		{Page: api.Page{52}, Refs: 2, File: -1},
		{Page: api.Page{60, 61, 62}, Refs: 3, Dirty: true, File: 0, Index: 1},
		{Page: api.Page{65}, Refs: 3, File: 0},
		{Page: api.Page{63, 0, 0, 0, 0, 0, 0, 64}, Refs: 1, Used: true, File: 1},
		free,
		free,
		{Page: api.Page{53}, Refs: 1, File: -1},
	}
	m.Memory.Hand = 3
	m.Slots = api.Slots{0, 2, 1, 0}
	m.Swap.Blocks = []api.Page{{90}, {70, 71}, {91}, {92}}
	m.Swap.Queue = []api.Put{{At: 2, Page: api.Page{93}}, {At: 0, Page: api.Page{94}}, {At: 2, Page: api.Page{72}}}
	m.Store.Files = []api.File{{Size: 20, Blocks: []int{2, -1, 0}}, {Size: 4, Blocks: []int{4}}, {}, {Size: 10, Blocks: []int{-1, 3}}}
	m.Disk.Blocks = []api.Page{{9, 9}, {}, {1, 2, 3, 4, 5, 6, 7, 8}, {31, 32, 33, 34}, {21}, {}}
	m.Disk.Queue = []api.Put{{At: 4, Page: api.Page{22}}, {At: 0, Page: api.Page{11, 12, 13, 14, 15, 16, 17, 18}}}
	m.Cache = []api.Cached{{File: 0, Index: 0, Frame: 3}, {File: 0, Index: 1, Frame: 2}, {File: 1, Index: 0, Frame: 4}}
	m.Spaces = []api.Space{
		{Live: true, Areas: []api.Area{
			{From: 1, To: 6, Read: true, Write: true, File: -1},
			{From: 6, To: 10, Read: true, Write: true, Shared: true, File: 0},
			{From: 10, To: 12, Read: true, File: 1},
			{From: 14, To: 15, File: -1},
			{From: 16, To: 20, Read: true, Write: true, File: 0},
			{From: 30, To: 31, Read: true, Write: true, File: 4},
		}},
		{},
		{Live: true, Areas: []api.Area{
			{From: 1, To: 4, Read: true, Write: true, File: -1},
			{From: 10, To: 14, Read: true, Write: true, File: 0},
			{From: 16, To: 17, Read: true, Shared: true, File: 0, Base: 1},
			{From: 63, To: 64, Read: true, File: 3, Base: 1},
		}},
	}
	lay(&m, 0, 1, writable(0))
	lay(&m, 0, 2, present(1))
	lay(&m, 0, 3, swapped(1))
	lay(&m, 0, 4, swapped(2))
	lay(&m, 0, 7, writable(2))
	lay(&m, 0, 16, present(3))
	lay(&m, 0, 19, present(7))
	lay(&m, 2, 2, present(1))
	lay(&m, 2, 3, swapped(1))
	lay(&m, 2, 10, present(3))
	lay(&m, 2, 16, present(2))
	return m
}

// held tells how often each frame, and each slot, is held.
func held(m api.Machine) string {
	var refs []int
	for _, f := range m.Memory.Frames {
		refs = append(refs, f.Refs)
	}
	return fmt.Sprint(refs, m.Slots)
}

func TestSample(t *testing.T) {
	if err := machine.Wrong(sample()); err != api.OK {
		t.Fatalf("sample is wrong: %d", err)
	}
}

// TestFork: the child has the frames and slots of its parent, each of them held once more, and nothing is copied.
func TestFork(t *testing.T) {
	for _, c := range []struct {
		p    int
		want string
	}{
		{0, "[2 3 4 4 1 0 0 2] [0 3 2 0]"},
		{2, "[1 3 4 4 1 0 0 1] [0 3 1 0]"},
	} {
		name := fmt.Sprint("process ", c.p)
		m, child, err := checkFork(t, name, sample(), c.p)
		if err != api.OK || child != 1 {
			t.Fatalf("%s: the child is %d, errno %d", name, child, err)
		}
		if got := held(m); got != c.want {
			t.Errorf("%s: frames and slots are held %s, not %s", name, got, c.want)
		}
		for n := range api.Span {
			was, is := table.Get(sample().Spaces[c.p].Table, n), table.Get(m.Spaces[child].Table, n)
			if was.Kind != is.Kind || was.N != is.N {
				t.Errorf("%s: page %d of the child has %+v, not %+v", name, n, is, was)
			}
		}
	}
}

// TestAloneNoMore: a copy that the parent might write by itself is written by neither as it is.
func TestAloneNoMore(t *testing.T) {
	m, child, _ := Fork(sample(), 0)
	for _, p := range []int{0, child} {
		for _, n := range []int{1, 2, 19} {
			if e := table.Get(m.Spaces[p].Table, n); e.Kind != api.Present || e.Write {
				t.Errorf("page %d of process %d has %+v", n, p, e)
			}
		}
	}
}

// TestExit: what the process had alone is free, what others have they keep, and files' pages stay in the cache.
func TestExit(t *testing.T) {
	for _, c := range []struct {
		p                 int
		want              string
		freeFrames, slots int
	}{
		{0, "[0 1 2 2 1 0 0 0] [0 1 0 0]", 4, 3},
		{2, "[1 1 2 2 1 0 0 1] [0 1 1 0]", 2, 2},
	} {
		name := fmt.Sprint("process ", c.p)
		m, err := checkExit(t, name, sample(), c.p)
		if err != api.OK {
			t.Fatalf("%s: errno %d", name, err)
		}
		if got := held(m); got != c.want || frames.Free(m.Memory) != c.freeFrames || slots.Free(m.Slots) != c.slots {
			t.Errorf("%s: frames and slots are held %s, not %s", name, got, c.want)
		}
		if !slices.Equal(m.Cache, sample().Cache) || !m.Memory.Frames[2].Dirty {
			t.Errorf("%s: the cache has %+v, and frame 2 is %+v", name, m.Cache, m.Memory.Frames[2])
		}
	}
}

// TestExitOfAll: when all have gone, files are as they were, though what was written to them is on no disk yet.
func TestExitOfAll(t *testing.T) {
	m := sample()
	for _, p := range []int{2, 0} {
		m, _ = checkExit(t, fmt.Sprint("process ", p), m, p)
	}
	if got := held(m); got != "[0 0 1 1 1 0 0 0] [0 0 0 0]" {
		t.Errorf("frames and slots are held %s", got)
	}
	if b, err := machine.Bytes(m, 0); err != api.OK || !slices.Equal(b, []byte{65, 0, 0, 0, 0, 0, 0, 0, 60, 61, 62, 0, 0, 0, 0, 0, 11, 12, 13, 14}) {
		t.Errorf("file 0 is %v, errno %d", b, err)
	}
	for p := range 3 {
		if _, _, err := checkFork(t, "nobody is there", m, p); err != api.ErrNone {
			t.Errorf("process %d, which has gone, forks: errno %d", p, err)
		}
		if _, err := checkExit(t, "nobody is there", m, p); err != api.ErrNone {
			t.Errorf("process %d, which has gone, goes: errno %d", p, err)
		}
	}
}

// TestWithoutATrace: when the child has gone, all is held as it was ahead of the fork; when the parent has, the child has all of it.
func TestWithoutATrace(t *testing.T) {
	for _, p := range []int{0, 2} {
		forked, child, _ := Fork(sample(), p)
		m, _ := checkExit(t, "the child", forked, child)
		if held(m) != held(sample()) || tell(m) != tell(sample()) {
			t.Errorf("the child of %d has gone: %s, and was %s", p, show(m), show(sample()))
		}
		m, _ = checkExit(t, "the parent", forked, p)
		if held(m) != held(sample()) || views(m, child) != views(sample(), p) {
			t.Errorf("process %d has gone, and its child is left: %s, and was %s", p, show(m), show(sample()))
		}
	}
}

// alive is a machine whose processes are Live as it is told, each with a byte of its own in page 5.
func alive(live ...bool) api.Machine {
	m, _ := machine.New(api.Config{Frames: 4})
	m.Spaces = make([]api.Space, len(live))
	for p, is := range live {
		if is {
			m.Spaces[p] = api.Space{Live: true, Areas: []api.Area{{From: 5, To: 6, Read: true, Write: true, File: -1}}}
			m.Memory.Frames[p] = api.Frame{Page: api.Page{byte(p + 1)}, Refs: 1, File: -1}
			lay(&m, p, 5, writable(p))
		}
	}
	return m
}

// TestNumbers: whichever processes are Live, the child is the first one of those that are not.
func TestNumbers(t *testing.T) {
	for count := range 5 {
		for bits := range 1 << count {
			live := make([]bool, count)
			for p := range live {
				live[p] = bits>>p&1 == 1
			}
			m := alive(live...)
			for p := -1; p < 6; p++ {
				name := fmt.Sprint("process ", p, " of ", live)
				want := api.ErrNone
				if p >= 0 && p < count && live[p] {
					want = api.OK
				}
				got, child, err := checkFork(t, name, m, p)
				if bits == 15 && want == api.OK {
					want = api.ErrMany
				}
				if err != want {
					t.Errorf("%s forks: errno %d, not %d", name, err, want)
				}
				if x, _, _ := machine.View(got, child, 5); err == api.OK && x != (api.Page{byte(p + 1)}) {
					t.Errorf("%s: its child %d has %v", name, child, x)
				}
				checkExit(t, name, m, p)
			}
		}
	}
}

// TestTooMany: four may be Live; when one has gone, its number is the next child's.
func TestTooMany(t *testing.T) {
	m := alive(true)
	for want := 1; want < 4; want++ {
		next, child, err := checkFork(t, "there is room", m, want-1)
		if err != api.OK || child != want {
			t.Fatalf("child %d is number %d, errno %d", want, child, err)
		}
		m = next
	}
	for p := range 4 {
		if _, _, err := checkFork(t, "four are Live", m, p); err != api.ErrMany {
			t.Errorf("four are Live, and process %d forks: errno %d", p, err)
		}
		without, err := checkExit(t, "four are Live", m, p)
		if err != api.OK {
			t.Fatalf("process %d goes: errno %d", p, err)
		}
		if _, child, err := checkFork(t, "three are Live", without, (p+1)%4); err != api.OK || child != p {
			t.Errorf("without process %d a child is number %d, errno %d", p, child, err)
		}
	}
	for _, p := range []int{-1, 4, math.MinInt, math.MaxInt} {
		// That there is no such process is told first.
		if _, _, err := checkFork(t, "four are Live", m, p); err != api.ErrNone {
			t.Errorf("four are Live, and process %d forks: errno %d", p, err)
		}
	}
}

// TestNoRoomIsNeeded: processes fork, and go, though no frame, no slot and no block is free.
func TestNoRoomIsNeeded(t *testing.T) {
	m := sample()
	m.Spaces[2].Areas = append(m.Spaces[2].Areas[:3], api.Area{From: 50, To: 54, Read: true, File: -1})
	for i, k := range []int{5, 6} {
		m.Memory.Frames[k] = api.Frame{Page: api.Page{byte(80 + i)}, Refs: 1, File: -1}
		lay(&m, 2, 50+i, present(k))
	}
	for i, k := range []int{0, 3} {
		m.Slots[k] = 1
		lay(&m, 2, 52+i, swapped(k))
	}
	m.Store.Files[3] = api.File{Size: 18, Blocks: []int{1, 3, 5}}
	if frames.Free(m.Memory) != 0 || slots.Free(m.Slots) != 0 || store.Left(m.Store) != 0 || machine.Wrong(m) != api.OK {
		t.Fatalf("there is room, or it is wrong, %d: %s", machine.Wrong(m), show(m))
	}
	for _, p := range []int{0, 2} {
		if _, _, err := checkFork(t, "no room", m, p); err != api.OK {
			t.Errorf("without room process %d forks: errno %d", p, err)
		}
		if _, err := checkExit(t, "no room", m, p); err != api.OK {
			t.Errorf("without room process %d goes: errno %d", p, err)
		}
	}
	none, _ := machine.New(api.Config{})
	none.Spaces[0].Areas = []api.Area{{From: 0, To: 64, Read: true, Write: true, File: -1}}
	if _, child, err := checkFork(t, "no frames at all", none, 0); err != api.OK || child != 1 {
		t.Errorf("without frames the child is %d, errno %d", child, err)
	}
}

// TestMostHolders: one frame, and one slot, may be in each page of all processes.
func TestMostHolders(t *testing.T) {
	for e, want := range map[api.Entry]string{present(0): "[256] [0]", swapped(0): "[0] [256]"} {
		m, _ := machine.New(api.Config{Frames: 1, Slots: 1})
		m.Spaces[0].Areas = []api.Area{{From: 0, To: api.Span, Read: true, Write: true, File: -1}}
		if e.Kind == api.Present {
			m.Memory.Frames[0] = api.Frame{Page: api.Page{7}, Refs: api.Span, File: -1}
		} else {
			m.Slots[0], m.Swap.Blocks[0] = api.Span, api.Page{7}
		}
		for n := range api.Span {
			lay(&m, 0, n, e)
		}
		for range 3 {
			m, _, _ = checkFork(t, "all pages have one", m, 0)
		}
		if got := held(m); got != want {
			t.Errorf("frames and slots are held %s, not %s", got, want)
		}
		for p := range 4 {
			m, _ = checkExit(t, "all pages have one", m, p)
		}
		if frames.Free(m.Memory) != 1 || slots.Free(m.Slots) != 1 {
			t.Errorf("at last it is %s", show(m))
		}
	}
}

// TestOwnWays: what parent or child stores, the other one does not see, but in a shared area.
func TestOwnWays(t *testing.T) {
	begun, child, _ := Fork(sample(), 0)
	for _, who := range []int{0, child} {
		other := child - who
		for _, n := range []int{1, 2, 3, 4, 5, 6, 7, 8, 16, 17, 18, 19} {
			shared := n >= 6 && n < 10
			m, k, err := fault.Use(begun, who, n, true)
			if err != api.OK {
				t.Fatalf("page %d of process %d is errno %d", n, who, err)
			}
			was := views(begun, other)
			m.Memory.Frames[k].Page[7] = 200
			if x, _, _ := machine.View(m, who, n); x[7] != 200 {
				t.Errorf("page %d of process %d has %v", n, who, x)
			}
			is := views(m, other)
			if (is[n].page[7] == 200) != shared {
				t.Errorf("process %d stores in page %d: process %d sees %v", who, n, other, is[n])
			}
			if !shared && is != was {
				t.Errorf("process %d stores in page %d: process %d sees %v, and saw %v", who, n, other, is, was)
			}
		}
	}
}

// TestWrongMachines: what is wrong with the machine is told ahead of all else.
func TestWrongMachines(t *testing.T) {
	for _, c := range []struct {
		name string
		do   func(m *api.Machine)
		want api.Errno
	}{
		{"41 frames", func(m *api.Machine) { m.Memory.Frames = make([]api.Frame, 41) }, api.ErrMany},
		{"Hand 8", func(m *api.Machine) { m.Memory.Hand = 8 }, api.ErrRange},
		{"slot -1", func(m *api.Machine) { m.Slots[0] = -1 }, api.ErrRange},
		{"a swap disk of a block more", func(m *api.Machine) { m.Swap.Blocks = append(m.Swap.Blocks, api.Page{}) }, api.ErrFit},
		{"a block that is two pages'", func(m *api.Machine) { m.Store.Files[0].Blocks[1] = 4 }, api.ErrFit},
		{"a page more than bytes", func(m *api.Machine) { m.Store.Files[2].Blocks = []int{-1} }, api.ErrForm},
		{"five processes", func(m *api.Machine) { m.Spaces = append(m.Spaces, api.Space{}, api.Space{}) }, api.ErrMany},
		{"an area behind Span", func(m *api.Machine) { m.Spaces[2].Areas[3].To = 65 }, api.ErrRange},
		{"an entry of kind 3", func(m *api.Machine) { m.Spaces[0].Table[0][5].Kind = 3 }, api.ErrKind},
		{"an area, not Live", func(m *api.Machine) { m.Spaces[0].Live = false }, api.ErrFit},
		{"an entry in no area", func(m *api.Machine) { m.Spaces[0].Table[0][0] = present(1) }, api.ErrNone},
		{"a frame held once more", func(m *api.Machine) { m.Memory.Frames[1].Refs++ }, api.ErrFit},
		{"a slot held once less", func(m *api.Machine) { m.Slots[1]-- }, api.ErrFit},
		{"a file's page not in the cache", func(m *api.Machine) { m.Cache = m.Cache[:2] }, api.ErrFit},
		{"a copy of two that one may write", func(m *api.Machine) { m.Spaces[0].Table[0][2].Write = true }, api.ErrFit},
	} {
		m := sample()
		c.do(&m)
		for _, p := range []int{0, 1, 2, 3, -1, math.MinInt, math.MaxInt} {
			if _, _, err := checkFork(t, c.name, m, p); err != c.want {
				t.Errorf("%s: process %d forks: errno %d, not %d", c.name, p, err, c.want)
			}
			if _, err := checkExit(t, c.name, m, p); err != c.want {
				t.Errorf("%s: process %d goes: errno %d, not %d", c.name, p, err, c.want)
			}
		}
	}
}

// TestNoSuchProcess: who is not there, or not Live, neither forks nor goes.
func TestNoSuchProcess(t *testing.T) {
	for _, m := range []api.Machine{sample(), {}} {
		for _, p := range []int{1, 3, 4, -1, math.MinInt, math.MaxInt} {
			if _, _, err := checkFork(t, fmt.Sprint("process ", p), m, p); err != api.ErrNone {
				t.Errorf("process %d forks: errno %d", p, err)
			}
			if _, err := checkExit(t, fmt.Sprint("process ", p), m, p); err != api.ErrNone {
				t.Errorf("process %d goes: errno %d", p, err)
			}
		}
	}
}

func TestExampleOfTheDocument(t *testing.T) {
	m, _ := machine.New(api.Config{Frames: 3, Slots: 2, Blocks: 4})
	if _, child, err := checkFork(t, "the example", m, 0); err != api.OK || child != 1 {
		t.Errorf("the child is number %d, errno %d", child, err)
	}
}
