package change

import (
	"fmt"
	"slices"
	"testing"

	"pagewright/api"
	"pagewright/frames"
	"pagewright/machine"
)

// small is a machine of two processes without a free frame: a copy of one, a copy of both, a file's page that both have, and one that is only in the cache. Both have slot 0, and another page of the file has block 0.
func small(slots, blocks int) api.Machine {
	m, _ := machine.New(api.Config{Frames: 4, Slots: slots, Blocks: blocks})
	m.Memory.Frames = []api.Frame{
		{Page: api.Page{10}, Refs: 1, Used: true, File: -1},
		{Page: api.Page{11}, Refs: 2, File: -1},
		{Page: api.Page{12}, Refs: 3, Used: true, Dirty: true, File: 0, Index: 1},
		{Page: api.Page{13}, Refs: 1, File: 1},
	}
	m.Slots[0], m.Swap.Blocks[0] = 2, api.Page{14}
	m.Store.Files = []api.File{{Size: 20, Blocks: []int{-1, -1, 0}}, {Size: 3, Blocks: []int{-1}}}
	m.Disk.Blocks[0] = api.Page{15}
	m.Cache = []api.Cached{{File: 0, Index: 1, Frame: 2}, {File: 1, Index: 0, Frame: 3}}
	l := []api.Area{
		{From: 0, To: 4, Read: true, Write: true, File: -1},
		{From: 8, To: 11, Read: true, Write: true, Shared: true, File: 0},
	}
	m.Spaces = []api.Space{{Live: true, Areas: l}, {Live: true, Areas: slices.Clone(l)}}
	w := Of(m)
	w.enter(Spot{0, 0}, api.Entry{Kind: api.Present, N: 0, Write: true})
	for p := range 2 {
		w.enter(Spot{p, 1}, api.Entry{Kind: api.Present, N: 1})
		w.enter(Spot{p, 2}, api.Entry{Kind: api.Swapped, N: 0})
		w.enter(Spot{p, 9}, api.Entry{Kind: api.Present, N: 2, Write: p == 0})
	}
	return w.Machine
}

func sample() api.Machine { return small(3, 3) }

// told is all that is told of m: pages of processes, but for those of but, and files.
func told(m api.Machine, but ...Spot) string {
	var s string
	for p := range m.Spaces {
		for n := range api.Span {
			if !slices.Contains(but, Spot{p, n}) {
				s += fmt.Sprintln(machine.View(m, p, n))
			}
		}
	}
	for file := range m.Store.Files {
		s += fmt.Sprintln(machine.Bytes(m, file))
	}
	return s
}

func TestSample(t *testing.T) {
	if err := machine.Wrong(sample()); err != api.OK {
		t.Fatalf("sample is wrong: %d", err)
	}
}

// TestFreeFrame: frame by frame is free, and nobody sees it; at last none is left.
func TestFreeFrame(t *testing.T) {
	m := Of(sample())
	want := told(m.Machine)
	for i := range 4 {
		if !m.FreeFrame() || frames.Free(m.Memory) != i+1 {
			t.Fatalf("of frame %d on none is free: %+v", i, m.Machine)
		}
		if err := machine.Wrong(m.Machine); err != api.OK || told(m.Machine) != want {
			t.Fatalf("with %d free the machine is wrong: %d, or another one: %+v", i+1, err, m.Machine)
		}
	}
	if m.FreeFrame() || Of(api.Machine{}).FreeFrame() {
		t.Errorf("where all are free one more is")
	}
	// The hand comes by frames 0 and 2, which are Used, a second time.
	if s := fmt.Sprint(m.Slots, m.Store.Files, m.Cache); s != "[2 2 1] [{20 [-1 2 0]} {3 [1]}] []" {
		t.Errorf("at last there are %s", s)
	}
}

// TestFreeFrameWithoutPlace: only what has a place can leave.
func TestFreeFrameWithoutPlace(t *testing.T) {
	for _, c := range []struct{ slots, blocks, want int }{{1, 1, 0}, {1, 2, 1}, {1, 3, 2}, {2, 1, 1}, {3, 1, 2}, {2, 2, 2}, {3, 2, 3}} {
		m := Of(small(c.slots, c.blocks))
		before := told(m.Machine)
		n := 0
		for m.FreeFrame() {
			n++
		}
		if n != c.want || frames.Free(m.Memory) != n || machine.Wrong(m.Machine) != api.OK || told(m.Machine) != before {
			t.Errorf("%+v: %d frames are free: %+v", c, n, m.Machine)
		}
	}
}

// oneFrame is a machine whose one frame has p, the last page of a file of 11 bytes, which has a block, or none, on a disk of so many.
func oneFrame(p api.Page, dirty bool, block, blocks int) api.Machine {
	m, _ := machine.New(api.Config{Frames: 1, Slots: 2, Blocks: blocks})
	m.Memory.Frames[0] = api.Frame{Page: p, Refs: 1, Dirty: dirty, File: 0, Index: 1}
	m.Store.Files = []api.File{{Size: 11, Blocks: []int{-1, block}}}
	m.Cache = []api.Cached{{File: 0, Index: 1, Frame: 0}}
	if block >= 0 {
		m.Disk.Blocks[block] = api.Page{1, 2, 3, 99}
	}
	return m
}

// TestWhatIsWritten: a page that is Dirty, or unlike the disk, is written, up to the file's end; any other one is not, and takes no block.
func TestWhatIsWritten(t *testing.T) {
	for _, c := range []struct {
		name          string
		page          api.Page
		dirty         bool
		block, blocks int
		want          string
	}{
		{"as on the disk", api.Page{1, 2, 3}, false, 0, 2, "true [-1 0] []"},
		{"as on the disk, and Dirty", api.Page{1, 2, 3}, true, 0, 2, "true [-1 0] [{0 [1 2 3 0 0 0 0 0]}]"},
		{"unlike the disk", api.Page{1, 2, 4}, false, 0, 2, "true [-1 0] [{0 [1 2 4 0 0 0 0 0]}]"},
		{"unlike the disk, and Dirty", api.Page{1, 2, 4}, true, 1, 2, "true [-1 1] [{1 [1 2 4 0 0 0 0 0]}]"},
		{"as on the disk up to the end", api.Page{1, 2, 3, 4}, false, 0, 1, "true [-1 0] []"},
		{"Dirty behind the end", api.Page{1, 2, 5, 4}, true, 0, 1, "true [-1 0] [{0 [1 2 5 0 0 0 0 0]}]"},
		{"noughts, and no block", api.Page{}, false, -1, 2, "true [-1 -1] []"},
		{"noughts, Dirty, and no block", api.Page{}, true, -1, 2, "true [-1 0] [{0 [0 0 0 0 0 0 0 0]}]"},
		{"noughts, Dirty, and no block is left", api.Page{}, true, -1, 0, "true [-1 -1] []"},
		{"noughts up to the end, and no block is left", api.Page{0, 0, 0, 7}, true, -1, 0, "true [-1 -1] []"},
		{"bytes, and no block", api.Page{7}, false, -1, 2, "true [-1 0] [{0 [7 0 0 0 0 0 0 0]}]"},
		{"bytes, and no block is left", api.Page{7}, false, -1, 0, "false [-1 -1] []"},
		{"bytes, Dirty, and no block is left", api.Page{7}, true, -1, 0, "false [-1 -1] []"},
	} {
		m := Of(oneFrame(c.page, c.dirty, c.block, c.blocks))
		before := told(m.Machine)
		free := m.FreeFrame()
		if got := fmt.Sprint(free, m.Store.Files[0].Blocks, m.Disk.Queue); got != c.want || machine.Wrong(m.Machine) != api.OK || told(m.Machine) != before {
			t.Errorf("%s: it is %s, not %s; Wrong is %d", c.name, got, c.want, machine.Wrong(m.Machine))
		}
	}
}

// TestClean: a file's page is written, and stays in its frame, where a block is, or can be, its own.
func TestClean(t *testing.T) {
	for _, c := range []struct {
		block, blocks int
		want          string
	}{
		{0, 1, "true false [-1 0] [{0 [1 2 4 0 0 0 0 0]}]"},
		{1, 2, "true false [-1 1] [{1 [1 2 4 0 0 0 0 0]}]"},
		{-1, 2, "true false [-1 0] [{0 [1 2 4 0 0 0 0 0]}]"},
		{-1, 0, "false true [-1 -1] []"},
	} {
		m := Of(oneFrame(api.Page{1, 2, 4, 5}, true, c.block, c.blocks))
		before := told(m.Machine)
		clean := m.Clean(0)
		if got := fmt.Sprint(clean, m.Memory.Frames[0].Dirty, m.Store.Files[0].Blocks, m.Disk.Queue); got != c.want || machine.Wrong(m.Machine) != api.OK || told(m.Machine) != before || m.Memory.Frames[0].Refs != 1 {
			t.Errorf("block %d of %d: it is %s, not %s: %+v", c.block, c.blocks, got, c.want, m.Machine)
		}
	}
}

// TestSeenBehindTheEnd: what a frame has behind the file's end leaves it if nobody sees it there.
func TestSeenBehindTheEnd(t *testing.T) {
	for _, c := range []struct {
		name   string
		area   api.Area
		entry  api.Entry
		moving []Spot
		want   bool
	}{
		{"in the frame", api.Area{From: 5, To: 6, Read: true, File: 0, Base: 1}, api.Entry{Kind: api.Present}, nil, false},
		{"without an entry", api.Area{From: 4, To: 6, Read: true, File: 0}, api.Entry{}, nil, false},
		{"without an entry, of all", api.Area{From: 4, To: 6, Read: true, Shared: true, File: 0}, api.Entry{}, nil, false},
		{"which is moving", api.Area{From: 4, To: 6, Read: true, File: 0}, api.Entry{}, []Spot{{0, 5}}, true},
		{"while another page is moving", api.Area{From: 4, To: 6, Read: true, File: 0}, api.Entry{}, []Spot{{0, 4}, {1, 5}}, false},
		{"a copy in a frame", api.Area{From: 4, To: 6, Read: true, File: 0}, api.Entry{Kind: api.Present, N: 1}, nil, true},
		{"a copy in a slot", api.Area{From: 4, To: 6, Read: true, File: 0}, api.Entry{Kind: api.Swapped, N: 1}, nil, true},
		{"another page", api.Area{From: 5, To: 6, Read: true, File: 0}, api.Entry{}, nil, true},
		{"a page of no file", api.Area{From: 5, To: 6, Read: true, File: -1}, api.Entry{}, nil, true},
		{"a page of another file", api.Area{From: 5, To: 6, Read: true, File: 1, Base: 1}, api.Entry{}, nil, true},
	} {
		m := Of(oneFrame(api.Page{1, 2, 3, 4}, false, 0, 1))
		m.Memory.Frames = append(m.Memory.Frames, api.Frame{File: -1})
		m.Spaces[0].Areas = []api.Area{c.area}
		m.enter(Spot{0, 5}, c.entry)
		switch {
		case c.entry == api.Entry{Kind: api.Present, N: 1}:
			m.Memory.Frames[1] = api.Frame{Page: api.Page{9}, Refs: 1, File: -1}
			m.Slots[0], m.Slots[1] = 1, 1 // so that it can't leave
			m.Spaces[0].Areas = append(m.Spaces[0].Areas, api.Area{From: 30, To: 32, File: -1})
			m.enter(Spot{0, 30}, api.Entry{Kind: api.Swapped})
			m.enter(Spot{0, 31}, api.Entry{Kind: api.Swapped, N: 1})
		case c.entry.Kind == api.Present:
			m.Memory.Frames[0].Refs = 2
		case c.entry.Kind == api.Swapped:
			m.Slots[1] = 1
		}
		if err := machine.Wrong(m.Machine); err != api.OK {
			t.Fatalf("%s: the machine is wrong: %d", c.name, err)
		}
		before := told(m.Machine, c.moving...)
		if got := m.FreeFrame(c.moving...); got != c.want || machine.Wrong(m.Machine) != api.OK || told(m.Machine, c.moving...) != before {
			t.Errorf("%s: a frame is free, %t: %+v", c.name, got, m.Machine)
		}
	}
}

func TestOfIsACopy(t *testing.T) {
	s := sample()
	before := fmt.Sprintf("%+v", s)
	m := Of(s)
	for m.FreeFrame() {
	}
	m.Drop(Spot{0, 2})
	if fmt.Sprintf("%+v", s) != before {
		t.Errorf("what was handed in is %+v, and was %s", s, before)
	}
}

func TestWhoHasIt(t *testing.T) {
	m := Of(sample())
	if l := m.Holders(api.Present, 1); !slices.Equal(l, []Spot{{0, 1}, {1, 1}}) {
		t.Errorf("frame 1 is held by %v", l)
	}
	if l := m.Holders(api.Swapped, 0); !slices.Equal(l, []Spot{{0, 2}, {1, 2}}) {
		t.Errorf("slot 0 is held by %v", l)
	}
	if l := m.Holders(api.Present, 3); len(l) != 0 {
		t.Errorf("frame 3 is held by %v", l)
	}
	for _, c := range []struct {
		file, index, want int
		ok                bool
	}{{0, 1, 2, true}, {1, 0, 3, true}, {0, 0, 0, false}, {0, 2, 0, false}, {2, 0, 0, false}, {-1, 0, 0, false}} {
		if k, ok := m.Cached(c.file, c.index); k != c.want || ok != c.ok {
			t.Errorf("page %d of file %d is in frame %d, %t", c.index, c.file, k, ok)
		}
	}
}

// TestSteps: each step leaves the machine right, and is seen by its own pages alone.
func TestSteps(t *testing.T) {
	for _, c := range []struct {
		name  string
		do    func(m *Machine)
		spots []Spot
		refs  string
	}{
		{"a copy of one goes", func(m *Machine) { m.Drop(Spot{0, 0}) }, []Spot{{0, 0}}, "[0 2 3 1] [2 0 0]"},
		{"a copy of both goes", func(m *Machine) { m.Drop(Spot{1, 1}) }, []Spot{{1, 1}}, "[1 1 3 1] [2 0 0]"},
		{"a slot of both goes", func(m *Machine) { m.Drop(Spot{1, 2}) }, []Spot{{1, 2}}, "[1 2 3 1] [1 0 0]"},
		{"a shared page goes", func(m *Machine) { m.Drop(Spot{0, 9}) }, nil, "[1 2 2 1] [2 0 0]"},
		{"nothing goes", func(m *Machine) { m.Drop(Spot{0, 3}) }, nil, "[1 2 3 1] [2 0 0]"},
		{"one joins", func(m *Machine) { m.Join(Spot{0, 3}, 1) }, []Spot{{0, 3}}, "[1 3 3 1] [2 0 0]"},
		{"one shares a copy of one", func(m *Machine) { m.Share(Spot{1, 0}, Spot{0, 0}) }, []Spot{{1, 0}}, "[2 2 3 1] [2 0 0]"},
		{"one shares a copy of both", func(m *Machine) { m.Share(Spot{0, 3}, Spot{1, 1}) }, []Spot{{0, 3}}, "[1 3 3 1] [2 0 0]"},
		{"one shares a slot", func(m *Machine) { m.Share(Spot{0, 3}, Spot{1, 2}) }, []Spot{{0, 3}}, "[1 2 3 1] [3 0 0]"},
		{"one shares a shared page", func(m *Machine) { m.Drop(Spot{1, 9}); m.Share(Spot{1, 9}, Spot{0, 9}) }, nil, "[1 2 3 1] [2 0 0]"},
		{"one shares nothing", func(m *Machine) { m.Share(Spot{0, 3}, Spot{1, 3}) }, nil, "[1 2 3 1] [2 0 0]"},
		{"a shared page may be written", func(m *Machine) { m.Allow(Spot{1, 9}) }, nil, "[1 2 3 1] [2 0 0]"},
		{"both come from a slot", func(m *Machine) { m.FreeFrame(); m.Copy(api.Page{14}, Spot{0, 2}, Spot{1, 2}) }, nil, "[1 2 3 2] [0 0 0]"},
		{"one comes from a slot", func(m *Machine) { m.FreeFrame(); m.Copy(api.Page{14}, Spot{1, 2}) }, nil, "[1 2 3 1] [1 0 0]"},
		{"a file's page comes", func(m *Machine) { m.FreeFrame(); m.Fetch(api.Page{}, 0, 0, Spot{1, 8}) }, nil, "[1 2 3 2] [2 0 0]"},
	} {
		m := Of(sample())
		m.Memory.Hand = 3 // so that what leaves is in frame 3
		before := told(m.Machine, c.spots...)
		c.do(m)
		var refs []int
		for _, f := range m.Memory.Frames {
			refs = append(refs, f.Refs)
		}
		if got := fmt.Sprint(refs, " ", m.Slots); got != c.refs || machine.Wrong(m.Machine) != api.OK || told(m.Machine, c.spots...) != before {
			t.Errorf("%s: frames and slots are held %s, not %s; Wrong is %d: %+v", c.name, got, c.refs, machine.Wrong(m.Machine), m.Machine)
		}
	}
}

// TestShareWritesNot: what two have neither of them may write, and both see the same.
func TestShareWritesNot(t *testing.T) {
	m := Of(sample())
	m.Share(Spot{1, 0}, Spot{0, 0})
	want := api.Entry{Kind: api.Present, N: 0}
	if e, f := m.Entry(Spot{0, 0}), m.Entry(Spot{1, 0}); e != want || f != want {
		t.Errorf("the entries are %+v and %+v", e, f)
	}
	if x, isCopy, err := machine.View(m.Machine, 1, 0); x != (api.Page{10}) || !isCopy || err != api.OK {
		t.Errorf("what is shared is %v, copy %t, errno %d", x, isCopy, err)
	}
}

// onDisk is a machine without frames, and a file of 20 bytes: its page 0 has block 1, with something waiting for it, page 1 none, and page 2 block 0, which has bytes behind the file's end.
func onDisk(frames int) api.Machine {
	m, _ := machine.New(api.Config{Frames: frames, Blocks: 3})
	m.Store.Files = []api.File{{Size: 20, Blocks: []int{1, -1, 0}}, {}}
	m.Disk.Blocks[0], m.Disk.Blocks[1] = api.Page{21, 22, 23, 24, 25, 26, 27, 28}, api.Page{1, 2, 3, 4, 5, 6, 7, 8}
	m.Disk.Queue = []api.Put{{At: 1, Page: api.Page{11, 12, 13, 14, 15, 16, 17, 18}}}
	return m
}

// TestResize: what a file was cut off is nowhere any more, and blocks that it had are free.
func TestResize(t *testing.T) {
	for _, c := range []struct {
		size int
		want string
	}{
		{0, "{0 []} [[0 0 0 0 0 0 0 0] [0 0 0 0 0 0 0 0] [0 0 0 0 0 0 0 0]] []"},
		{3, "{3 [1]} [[0 0 0 0 0 0 0 0] [11 12 13 0 0 0 0 0] [0 0 0 0 0 0 0 0]] []"},
		{8, "{8 [1]} [[0 0 0 0 0 0 0 0] [1 2 3 4 5 6 7 8] [0 0 0 0 0 0 0 0]] [{1 [11 12 13 14 15 16 17 18]}]"},
		{13, "{13 [1 -1]} [[0 0 0 0 0 0 0 0] [1 2 3 4 5 6 7 8] [0 0 0 0 0 0 0 0]] [{1 [11 12 13 14 15 16 17 18]}]"},
		{17, "{17 [1 -1 0]} [[21 0 0 0 0 0 0 0] [11 12 13 14 15 16 17 18] [0 0 0 0 0 0 0 0]] []"},
		{20, "{20 [1 -1 0]} [[21 22 23 24 0 0 0 0] [11 12 13 14 15 16 17 18] [0 0 0 0 0 0 0 0]] []"},
		{22, "{22 [1 -1 0]} [[21 22 23 24 0 0 0 0] [11 12 13 14 15 16 17 18] [0 0 0 0 0 0 0 0]] []"},
		{33, "{33 [1 -1 0 -1 -1]} [[21 22 23 24 0 0 0 0] [11 12 13 14 15 16 17 18] [0 0 0 0 0 0 0 0]] []"},
	} {
		m := Of(onDisk(0))
		was, _ := machine.Bytes(m.Machine, 0)
		m.Resize(0, c.size)
		if got := fmt.Sprint(m.Store.Files[0], m.Disk.Blocks, m.Disk.Queue); got != c.want || machine.Wrong(m.Machine) != api.OK {
			t.Errorf("%d bytes: it is %s, not %s; Wrong is %d", c.size, got, c.want, machine.Wrong(m.Machine))
		}
		want := append(was, make([]byte, 96)...)[:c.size]
		clear(want[min(20, c.size):])
		if b, _ := machine.Bytes(m.Machine, 0); !slices.Equal(b, want) {
			t.Errorf("%d bytes: it is %v, not %v", c.size, b, want)
		}
	}
}

// TestResizeWaiting: what waits, and may be there behind a crash, is cut too, though the block reads noughts there.
func TestResizeWaiting(t *testing.T) {
	m := Of(onDisk(0))
	m.Disk.Blocks[1] = api.Page{1, 2}
	m.Disk.Queue = append(m.Disk.Queue, api.Put{At: 1, Page: api.Page{31, 32}})
	m.Resize(0, 2)
	if got := fmt.Sprint(m.Disk.Blocks, m.Disk.Queue); got != "[[0 0 0 0 0 0 0 0] [31 32 0 0 0 0 0 0] [0 0 0 0 0 0 0 0]] []" {
		t.Errorf("it is %s", got)
	}
	// Where there is nothing to cut, what waits goes on waiting.
	m = Of(onDisk(0))
	m.Disk.Blocks[1], m.Disk.Queue = api.Page{1, 2}, []api.Put{{At: 1, Page: api.Page{31, 32}}, {At: 0, Page: api.Page{33}}}
	m.Resize(0, 2)
	if got := fmt.Sprint(m.Disk.Blocks, m.Disk.Queue); got != "[[0 0 0 0 0 0 0 0] [1 2 0 0 0 0 0 0] [0 0 0 0 0 0 0 0]] [{1 [31 32 0 0 0 0 0 0]}]" {
		t.Errorf("it is %s", got)
	}
}

// TestResizeFrames: pages behind the end leave their frames, and whoever was in them; the page that is cut stays, as Dirty as it was.
func TestResizeFrames(t *testing.T) {
	for _, c := range []struct {
		size, free int
		page       string
	}{{0, 1, ""}, {8, 1, ""}, {9, 0, "[12 0 0 0 0 0 0 0]"}, {11, 0, "[12 2 3 0 0 0 0 0]"}, {16, 0, "[12 2 3 4 5 6 7 8]"}, {20, 0, "[12 2 3 4 5 6 7 8]"}, {60, 0, "[12 2 3 4 5 6 7 8]"}} {
		for _, dirty := range []bool{false, true} {
			m := Of(sample())
			m.Memory.Frames[2].Page, m.Memory.Frames[2].Dirty = api.Page{12, 2, 3, 4, 5, 6, 7, 8}, dirty
			m.Resize(0, c.size)
			f := m.Memory.Frames[2]
			if err := machine.Wrong(m.Machine); err != api.OK || frames.Free(m.Memory) != c.free {
				t.Errorf("%d bytes: Wrong is %d: %+v", c.size, err, m.Machine)
			}
			if c.free == 0 && (fmt.Sprint(f.Page) != c.page || f.Dirty != dirty || f.Refs != 3) {
				t.Errorf("%d bytes: the frame is %+v", c.size, f)
			}
			if e := m.Entry(Spot{1, 9}); (e.Kind == api.None) != (c.free == 1) {
				t.Errorf("%d bytes: the entry is %+v", c.size, e)
			}
		}
	}
}

// TestPut: bytes are in a frame, if one can be had, else in the block; nobody else sees it.
func TestPut(t *testing.T) {
	for _, c := range []struct {
		name   string
		frames int
		index  int
		want   string
	}{
		{"in a frame", 1, 0, "0 [11 12 13 51 52 16 17 18] true true 1 [1 -1 0] 1"},
		{"in a frame, without a block", 1, 1, "0 [0 0 0 51 52 0 0 0] true true 1 [1 -1 0] 1"},
		{"in its block", 0, 0, "0 [1 -1 0] 2"},
		{"in a block that it gets", 0, 1, "0 [1 2 0] 2"},
		{"in its block, up to the end", 0, 2, "0 [1 -1 0] 2"},
	} {
		m := Of(onDisk(c.frames))
		want, _ := machine.Bytes(m.Machine, 0)
		want = append(want, 0, 0, 0, 0)
		copy(want[c.index*api.PageSize+3:], []byte{51, 52})
		err := m.Put(0, c.index, 3, []byte{51, 52})
		got := fmt.Sprint(err)
		for _, f := range m.Memory.Frames {
			got += fmt.Sprint(" ", f.Page, f.Used, f.Dirty, f.Refs)
		}
		got += fmt.Sprint(" ", m.Store.Files[0].Blocks, len(m.Disk.Queue))
		if got != c.want || machine.Wrong(m.Machine) != api.OK {
			t.Errorf("%s: it is %s, not %s: %+v", c.name, got, c.want, m.Machine)
		}
		if b, _ := machine.Bytes(m.Machine, 0); !slices.Equal(b, want[:20]) {
			t.Errorf("%s: the file is %v, not %v", c.name, b, want)
		}
	}
	full := Of(onDisk(0))
	full.Store.Files[1] = api.File{Size: 1, Blocks: []int{2}}
	if err := full.Put(0, 1, 0, []byte{1}); err != api.ErrFull {
		t.Errorf("there is neither a frame nor a block: errno %d", err)
	}
}

// TestPutCached: bytes of a page that is in a frame are written there, and all who have it see them.
func TestPutCached(t *testing.T) {
	m := Of(sample())
	m.Memory.Frames[2].Dirty, m.Memory.Frames[2].Used = false, false
	before := told(m.Machine, Spot{0, 9}, Spot{1, 9})
	if err := m.Put(0, 1, 7, []byte{5}); err != api.OK || machine.Wrong(m.Machine) != api.OK {
		t.Fatalf("errno %d: %+v", err, m.Machine)
	}
	if f := m.Memory.Frames[2]; f.Page != (api.Page{12, 0, 0, 0, 0, 0, 0, 5}) || !f.Dirty || !f.Used || f.Refs != 3 {
		t.Errorf("the frame is %+v", f)
	}
	m.Memory.Frames[2].Page[7] = 0
	if told(m.Machine, Spot{0, 9}, Spot{1, 9}) != before {
		t.Errorf("all else is another one: %+v", m.Machine)
	}
}
