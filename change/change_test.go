package change

import (
	"fmt"
	"slices"
	"testing"

	"pagewright/api"
	"pagewright/frames"
	"pagewright/machine"
)

// small is a machine of two processes without a free frame: a copy of one, a copy of both, a file's page that both have, and one that is only in the cache. Both have slot 0, and another page of the file has block 0.
func small(slots, blocks int) api.Machine {
	m, _ := machine.New(api.Config{Frames: 4, Slots: slots, Blocks: blocks})
	m.Memory.Frames = []api.Frame{
		{Page: api.Page{10}, Refs: 1, Used: true, File: -1},
		{Page: api.Page{11}, Refs: 2, File: -1},
		{Page: api.Page{12}, Refs: 3, Used: true, Dirty: true, File: 0, Index: 1},
		{Page: api.Page{13}, Refs: 1, File: 1},
	}
	m.Slots[0], m.Swap.Blocks[0] = 2, api.Page{14}
	m.Store.Files = []api.File{{Size: 20, Blocks: []int{-1, -1, 0}}, {Size: 3, Blocks: []int{-1}}}
	m.Disk.Blocks[0] = api.Page{15}
	m.Cache = []api.Cached{{File: 0, Index: 1, Frame: 2}, {File: 1, Index: 0, Frame: 3}}
	l := []api.Area{
		{From: 0, To: 4, Read: true, Write: true, File: -1},
		{From: 8, To: 11, Read: true, Write: true, Shared: true, File: 0},
	}
	m.Spaces = []api.Space{{Live: true, Areas: l}, {Live: true, Areas: slices.Clone(l)}}
	w := Of(m)
	w.enter(Spot{0, 0}, api.Entry{Kind: api.Present, N: 0, Write: true})
	for p := range 2 {
		w.enter(Spot{p, 1}, api.Entry{Kind: api.Present, N: 1})
		w.enter(Spot{p, 2}, api.Entry{Kind: api.Swapped, N: 0})
		w.enter(Spot{p, 9}, api.Entry{Kind: api.Present, N: 2, Write: p == 0})
	}
	return w.Machine
}

func sample() api.Machine { return small(3, 3) }

// told is all that is told of m: pages of processes, but for those of but, and files.
func told(m api.Machine, but ...Spot) string {
	var s string
	for p := range m.Spaces {
		for n := range api.Span {
			if !slices.Contains(but, Spot{p, n}) {
				s += fmt.Sprintln(machine.View(m, p, n))
			}
		}
	}
	for file := range m.Store.Files {
		s += fmt.Sprintln(machine.Bytes(m, file))
	}
	return s
}

func TestSample(t *testing.T) {
	if err := machine.Wrong(sample()); err != api.OK {
		t.Fatalf("sample is wrong: %d", err)
	}
}

// TestFreeFrame: frame by frame is free, and nobody sees it; at last none is left.
func TestFreeFrame(t *testing.T) {
	m := Of(sample())
	want := told(m.Machine)
	for i := range 4 {
		if !m.FreeFrame() || frames.Free(m.Memory) != i+1 {
			t.Fatalf("of frame %d on none is free: %+v", i, m.Machine)
		}
		if err := machine.Wrong(m.Machine); err != api.OK || told(m.Machine) != want {
			t.Fatalf("with %d free the machine is wrong: %d, or another one: %+v", i+1, err, m.Machine)
		}
	}
	if m.FreeFrame() || Of(api.Machine{}).FreeFrame() {
		t.Errorf("where all are free one more is")
	}
	// The hand comes by frames 0 and 2, which are Used, a second time.
	if s := fmt.Sprint(m.Slots, m.Store.Files, m.Cache); s != "[2 2 1] [{20 [-1 2 0]} {3 [1]}] []" {
		t.Errorf("at last there are %s", s)
	}
}

// TestFreeFrameWithoutPlace: only what has a place can leave.
func TestFreeFrameWithoutPlace(t *testing.T) {
	for _, c := range []struct{ slots, blocks, want int }{{1, 1, 0}, {1, 2, 1}, {1, 3, 2}, {2, 1, 1}, {3, 1, 2}, {2, 2, 2}, {3, 2, 3}} {
		m := Of(small(c.slots, c.blocks))
		before := told(m.Machine)
		n := 0
		for m.FreeFrame() {
			n++
		}
		if n != c.want || frames.Free(m.Memory) != n || machine.Wrong(m.Machine) != api.OK || told(m.Machine) != before {
			t.Errorf("%+v: %d frames are free: %+v", c, n, m.Machine)
		}
	}
}

// oneFrame is a machine whose one frame has p, the last page of a file of 11 bytes, which has a block, or none, on a disk of so many.
func oneFrame(p api.Page, dirty bool, block, blocks int) api.Machine {
	m, _ := machine.New(api.Config{Frames: 1, Slots: 2, Blocks: blocks})
	m.Memory.Frames[0] = api.Frame{Page: p, Refs: 1, Dirty: dirty, File: 0, Index: 1}
	m.Store.Files = []api.File{{Size: 11, Blocks: []int{-1, block}}}
	m.Cache = []api.Cached{{File: 0, Index: 1, Frame: 0}}
	if block >= 0 {
		m.Disk.Blocks[block] = api.Page{1, 2, 3, 99}
	}
	return m
}

// TestWhatIsWritten: a page that is Dirty, or unlike the disk, is written, up to the file's end; any other one is not, and takes no block.
func TestWhatIsWritten(t *testing.T) {
	for _, c := range []struct {
		name          string
		page          api.Page
		dirty         bool
		block, blocks int
		want          string
	}{
		{"as on the disk", api.Page{1, 2, 3}, false, 0, 2, "true [-1 0] []"},
		{"as on the disk, and Dirty", api.Page{1, 2, 3}, true, 0, 2, "true [-1 0] [{0 [1 2 3 0 0 0 0 0]}]"},
		{"unlike the disk", api.Page{1, 2, 4}, false, 0, 2, "true [-1 0] [{0 [1 2 4 0 0 0 0 0]}]"},
		{"unlike the disk, and Dirty", api.Page{1, 2, 4}, true, 1, 2, "true [-1 1] [{1 [1 2 4 0 0 0 0 0]}]"},
		{"as on the disk up to the end", api.Page{1, 2, 3, 4}, false, 0, 1, "true [-1 0] []"},
		{"Dirty behind the end", api.Page{1, 2, 5, 4}, true, 0, 1, "true [-1 0] [{0 [1 2 5 0 0 0 0 0]}]"},
		{"noughts, and no block", api.Page{}, false, -1, 2, "true [-1 -1] []"},
		{"noughts, Dirty, and no block", api.Page{}, true, -1, 2, "true [-1 0] [{0 [0 0 0 0 0 0 0 0]}]"},
		{"noughts, Dirty, and no block is left", api.Page{}, true, -1, 0, "true [-1 -1] []"},
		{"noughts up to the end, and no block is left", api.Page{0, 0, 0, 7}, true, -1, 0, "true [-1 -1] []"},
		{"bytes, and no block", api.Page{7}, false, -1, 2, "true [-1 0] [{0 [7 0 0 0 0 0 0 0]}]"},
		{"bytes, and no block is left", api.Page{7}, false, -1, 0, "false [-1 -1] []"},
		{"bytes, Dirty, and no block is left", api.Page{7}, true, -1, 0, "false [-1 -1] []"},
	} {
		m := Of(oneFrame(c.page, c.dirty, c.block, c.blocks))
		before := told(m.Machine)
		free := m.FreeFrame()
		if got := fmt.Sprint(free, m.Store.Files[0].Blocks, m.Disk.Queue); got != c.want || machine.Wrong(m.Machine) != api.OK || told(m.Machine) != before {
			t.Errorf("%s: it is %s, not %s; Wrong is %d", c.name, got, c.want, machine.Wrong(m.Machine))
		}
	}
}

// TestClean: a file's page is written, and stays in its frame, where a block is, or can be, its own.
func TestClean(t *testing.T) {
	for _, c := range []struct {
		block, blocks int
		want          string
	}{
		{0, 1, "true false [-1 0] [{0 [1 2 4 0 0 0 0 0]}]"},
		{1, 2, "true false [-1 1] [{1 [1 2 4 0 0 0 0 0]}]"},
		{-1, 2, "true false [-1 0] [{0 [1 2 4 0 0 0 0 0]}]"},
		{-1, 0, "false true [-1 -1] []"},
	} {
		m := Of(oneFrame(api.Page{1, 2, 4, 5}, true, c.block, c.blocks))
		before := told(m.Machine)
		clean := m.Clean(0)
		if got := fmt.Sprint(clean, m.Memory.Frames[0].Dirty, m.Store.Files[0].Blocks, m.Disk.Queue); got != c.want || machine.Wrong(m.Machine) != api.OK || told(m.Machine) != before || m.Memory.Frames[0].Refs != 1 {
			t.Errorf("block %d of %d: it is %s, not %s: %+v", c.block, c.blocks, got, c.want, m.Machine)
		}
	}
}

// TestSeenBehindTheEnd: what a frame has behind the file's end leaves it if nobody sees it there.
func TestSeenBehindTheEnd(t *testing.T) {
	for _, c := range []struct {
		name   string
		area   api.Area
		entry  api.Entry
		moving []Spot
		want   bool
	}{
		{"in the frame", api.Area{From: 5, To: 6, Read: true, File: 0, Base: 1}, api.Entry{Kind: api.Present}, nil, false},
		{"without an entry", api.Area{From: 4, To: 6, Read: true, File: 0}, api.Entry{}, nil, false},
		{"without an entry, of all", api.Area{From: 4, To: 6, Read: true, Shared: true, File: 0}, api.Entry{}, nil, false},
		{"which is moving", api.Area{From: 4, To: 6, Read: true, File: 0}, api.Entry{}, []Spot{{0, 5}}, true},
		{"while another page is moving", api.Area{From: 4, To: 6, Read: true, File: 0}, api.Entry{}, []Spot{{0, 4}, {1, 5}}, false},
		{"a copy in a frame", api.Area{From: 4, To: 6, Read: true, File: 0}, api.Entry{Kind: api.Present, N: 1}, nil, true},
		{"a copy in a slot", api.Area{From: 4, To: 6, Read: true, File: 0}, api.Entry{Kind: api.Swapped, N: 1}, nil, true},
		{"another page", api.Area{From: 5, To: 6, Read: true, File: 0}, api.Entry{}, nil, true},
		{"a page of no file", api.Area{From: 5, To: 6, Read: true, File: -1}, api.Entry{}, nil, true},
		{"a page of another file", api.Area{From: 5, To: 6, Read: true, File: 1, Base: 1}, api.Entry{}, nil, true},
	} {
		m := Of(oneFrame(api.Page{1, 2, 3, 4}, false, 0, 1))
		m.Memory.Frames = append(m.Memory.Frames, api.Frame{File: -1})
		m.Spaces[0].Areas = []api.Area{c.area}
		m.enter(Spot{0, 5}, c.entry)
		switch {
		case c.entry == api.Entry{Kind: api.Present, N: 1}:
			m.Memory.Frames[1] = api.Frame{Page: api.Page{9}, Refs: 1, File: -1}
			m.Slots[0], m.Slots[1] = 1, 1 // so that it can't leave
			m.Spaces[0].Areas = append(m.Spaces[0].Areas, api.Area{From: 30, To: 32, File: -1})
			m.enter(Spot{0, 30}, api.Entry{Kind: api.Swapped})
			m.enter(Spot{0, 31}, api.Entry{Kind: api.Swapped, N: 1})
		case c.entry.Kind == api.Present:
			m.Memory.Frames[0].Refs = 2
		case c.entry.Kind == api.Swapped:
			m.Slots[1] = 1
		}
		if err := machine.Wrong(m.Machine); err != api.OK {
			t.Fatalf("%s: the machine is wrong: %d", c.name, err)
		}
		before := told(m.Machine, c.moving...)
		if got := m.FreeFrame(c.moving...); got != c.want || machine.Wrong(m.Machine) != api.OK || told(m.Machine, c.moving...) != before {
			t.Errorf("%s: a frame is free, %t: %+v", c.name, got, m.Machine)
		}
	}
}

func TestOfIsACopy(t *testing.T) {
	s := sample()
	before := fmt.Sprintf("%+v", s)
	m := Of(s)
	for m.FreeFrame() {
	}
	m.Drop(Spot{0, 2})
	if fmt.Sprintf("%+v", s) != before {
		t.Errorf("what was handed in is %+v, and was %s", s, before)
	}
}

func TestWhoHasIt(t *testing.T) {
	m := Of(sample())
	if l := m.Holders(api.Present, 1); !slices.Equal(l, []Spot{{0, 1}, {1, 1}}) {
		t.Errorf("frame 1 is held by %v", l)
	}
	if l := m.Holders(api.Swapped, 0); !slices.Equal(l, []Spot{{0, 2}, {1, 2}}) {
		t.Errorf("slot 0 is held by %v", l)
	}
	if l := m.Holders(api.Present, 3); len(l) != 0 {
		t.Errorf("frame 3 is held by %v", l)
	}
	for _, c := range []struct {
		file, index, want int
		ok                bool
	}{{0, 1, 2, true}, {1, 0, 3, true}, {0, 0, 0, false}, {0, 2, 0, false}, {2, 0, 0, false}, {-1, 0, 0, false}} {
		if k, ok := m.Cached(c.file, c.index); k != c.want || ok != c.ok {
			t.Errorf("page %d of file %d is in frame %d, %t", c.index, c.file, k, ok)
		}
	}
}

// TestSteps: each step leaves the machine right, and is seen by its own pages alone.
func TestSteps(t *testing.T) {
	for _, c := range []struct {
		name  string
		do    func(m *Machine)
		spots []Spot
		refs  string
	}{
		{"a copy of one goes", func(m *Machine) { m.Drop(Spot{0, 0}) }, []Spot{{0, 0}}, "[0 2 3 1] [2 0 0]"},
		{"a copy of both goes", func(m *Machine) { m.Drop(Spot{1, 1}) }, []Spot{{1, 1}}, "[1 1 3 1] [2 0 0]"},
		{"a slot of both goes", func(m *Machine) { m.Drop(Spot{1, 2}) }, []Spot{{1, 2}}, "[1 2 3 1] [1 0 0]"},
		{"a shared page goes", func(m *Machine) { m.Drop(Spot{0, 9}) }, nil, "[1 2 2 1] [2 0 0]"},
		{"nothing goes", func(m *Machine) { m.Drop(Spot{0, 3}) }, nil, "[1 2 3 1] [2 0 0]"},
		{"one joins", func(m *Machine) { m.Join(Spot{0, 3}, 1) }, []Spot{{0, 3}}, "[1 3 3 1] [2 0 0]"},
		{"one shares a copy of one", func(m *Machine) { m.Share(Spot{1, 0}, Spot{0, 0}) }, []Spot{{1, 0}}, "[2 2 3 1] [2 0 0]"},
		{"one shares a copy of both", func(m *Machine) { m.Share(Spot{0, 3}, Spot{1, 1}) }, []Spot{{0, 3}}, "[1 3 3 1] [2 0 0]"},
		{"one shares a slot", func(m *Machine) { m.Share(Spot{0, 3}, Spot{1, 2}) }, []Spot{{0, 3}}, "[1 2 3 1] [3 0 0]"},
		{"one shares a shared page", func(m *Machine) { m.Drop(Spot{1, 9}); m.Share(Spot{1, 9}, Spot{0, 9}) }, nil, "[1 2 3 1] [2 0 0]"},
		{"one shares nothing", func(m *Machine) { m.Share(Spot{0, 3}, Spot{1, 3}) }, nil, "[1 2 3 1] [2 0 0]"},
		{"a shared page may be written", func(m *Machine) { m.Allow(Spot{1, 9}) }, nil, "[1 2 3 1] [2 0 0]"},
		{"both come from a slot", func(m *Machine) { m.FreeFrame(); m.Copy(api.Page{14}, Spot{0, 2}, Spot{1, 2}) }, nil, "[1 2 3 2] [0 0 0]"},
		{"one comes from a slot", func(m *Machine) { m.FreeFrame(); m.Copy(api.Page{14}, Spot{1, 2}) }, nil, "[1 2 3 1] [1 0 0]"},
		{"a file's page comes", func(m *Machine) { m.FreeFrame(); m.Fetch(api.Page{}, 0, 0, Spot{1, 8}) }, nil, "[1 2 3 2] [2 0 0]"},
	} {
		m := Of(sample())
		m.Memory.Hand = 3 // so that what leaves is in frame 3
		before := told(m.Machine, c.spots...)
		c.do(m)
		var refs []int
		for _, f := range m.Memory.Frames {
			refs = append(refs, f.Refs)
		}
		if got := fmt.Sprint(refs, " ", m.Slots); got != c.refs || machine.Wrong(m.Machine) != api.OK || told(m.Machine, c.spots...) != before {
			t.Errorf("%s: frames and slots are held %s, not %s; Wrong is %d: %+v", c.name, got, c.refs, machine.Wrong(m.Machine), m.Machine)
		}
	}
}

// TestShareWritesNot: what two have neither of them may write, and both see the same.
func TestShareWritesNot(t *testing.T) {
	m := Of(sample())
	m.Share(Spot{1, 0}, Spot{0, 0})
	want := api.Entry{Kind: api.Present, N: 0}
	if e, f := m.Entry(Spot{0, 0}), m.Entry(Spot{1, 0}); e != want || f != want {
		t.Errorf("the entries are %+v and %+v", e, f)
	}
	if x, isCopy, err := machine.View(m.Machine, 1, 0); x != (api.Page{10}) || !isCopy || err != api.OK {
		t.Errorf("what is shared is %v, copy %t, errno %d", x, isCopy, err)
	}
}
