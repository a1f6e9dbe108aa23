package paging

import (
	"fmt"
	"math"
	"slices"
	"testing"

	"pagewright/api"
	"pagewright/disk"
	"pagewright/frames"
	"pagewright/machine"
	"pagewright/slots"
	"pagewright/table"
)

func present(n int) api.Entry { return api.Entry{Kind: api.Present, N: n} }

func writable(n int) api.Entry { return api.Entry{Kind: api.Present, N: n, Write: true} }

func swapped(n int) api.Entry { return api.Entry{Kind: api.Swapped, N: n} }

// lay gives page n of process p the entry e.
func lay(m *api.Machine, p, n int, e api.Entry) {
	m.Spaces[p].Table, _ = table.Set(m.Spaces[p].Table, n, e)
}

// small is a right machine with each kind of frame: copies of one (0) and of two (1), files' pages: Dirty without a block (2) and with one (4), not Dirty, and yet unlike the disk (3), and as the disk has them (6); a free one (5), and a copy that is Dirty (7). Of so many slots two are taken, and of so many blocks five.
func small(slots, blocks int) api.Machine {
	m, _ := machine.New(api.Config{Frames: 8, Slots: slots, Blocks: blocks})
	m.Memory.Frames = []api.Frame{
		{Page: api.Page{50, 51}, Refs: 1, Used: true, File: -1},
		{Page: api.Page{52}, Refs: 2, File: -1},
		{Page: api.Page{60, 61, 62}, Refs: 3, Dirty: true, File: 0, Index: 1},
		{Page: api.Page{65}, Refs: 3, File: 0},
		{Page: api.Page{63, 0, 0, 64}, Refs: 1, Used: true, Dirty: true, File: 1},
		{File: -1},
		{Page: api.Page{31, 32}, Refs: 1, File: 3, Index: 1},
		{Page: api.Page{53}, Refs: 1, Dirty: true, File: -1},
	}
	m.Memory.Hand = 3
	m.Slots[0], m.Slots[1] = 2, 1
	m.Swap.Blocks[0], m.Swap.Blocks[1] = api.Page{70, 71}, api.Page{91}
	m.Swap.Queue = []api.Put{{At: 1, Page: api.Page{93}}, {At: 1, Page: api.Page{72}}}
	m.Store.Files = []api.File{{Size: 20, Blocks: []int{2, -1, 0}}, {Size: 4, Blocks: []int{4}}, {}, {Size: 10, Blocks: []int{1, 3}}}
	copy(m.Disk.Blocks, []api.Page{{9, 9}, {35}, {1, 2, 3, 4, 5, 6, 7, 8}, {31, 32, 33, 34}, {21}})
	m.Disk.Queue = []api.Put{{At: 4, Page: api.Page{22}}, {At: 0, Page: api.Page{11, 12, 13, 14, 15, 16, 17, 18}}}
	m.Cache = []api.Cached{{File: 0, Index: 0, Frame: 3}, {File: 0, Index: 1, Frame: 2}, {File: 1, Index: 0, Frame: 4}, {File: 3, Index: 1, Frame: 6}}
	m.Spaces = []api.Space{
		{Live: true, Areas: []api.Area{
			{From: 1, To: 6, Read: true, Write: true, File: -1},
			{From: 6, To: 10, Read: true, Write: true, Shared: true, File: 0},
			{From: 10, To: 12, Read: true, File: 1},
			{From: 16, To: 20, Read: true, Write: true, File: 0},
			{From: 30, To: 31, Read: true, Write: true, File: 4},
		}},
		{},
		{Live: true, Areas: []api.Area{
			{From: 1, To: 4, Read: true, Write: true, File: -1},
			{From: 10, To: 14, Read: true, Write: true, File: 0},
			{From: 16, To: 17, Read: true, Shared: true, File: 0, Base: 1},
			{From: 63, To: 64, Read: true, File: 3, Base: 1},
		}},
	}
	lay(&m, 0, 1, writable(0))
	lay(&m, 0, 2, present(1))
	lay(&m, 0, 3, swapped(0))
	lay(&m, 0, 4, swapped(1))
	lay(&m, 0, 7, writable(2))
	lay(&m, 0, 16, present(3))
	lay(&m, 0, 19, present(7))
	lay(&m, 2, 2, present(1))
	lay(&m, 2, 3, swapped(0))
	lay(&m, 2, 10, present(3))
	lay(&m, 2, 16, present(2))
	return m
}

func sample() api.Machine { return small(6, 7) }

func TestSample(t *testing.T) {
	for _, c := range []struct{ slots, blocks int }{{6, 7}, {2, 5}, {2, 7}, {6, 5}} {
		if err := machine.Wrong(small(c.slots, c.blocks)); err != api.OK {
			t.Fatalf("sample %v is wrong: %d", c, err)
		}
	}
}

// TestEvict: frame by frame is free, and nobody sees it; at last all are, and no more can be.
func TestEvict(t *testing.T) {
	m := sample()
	for i := range 7 {
		next, ok := checkEvict(t, fmt.Sprint("frame ", i), m)
		if !ok || frames.Free(next.Memory) != i+2 {
			t.Fatalf("frame %d is not free: %s", i, show(next))
		}
		m = next
	}
	for range 2 {
		next, ok := checkEvict(t, "all are free", m)
		if ok {
			t.Errorf("all are free, and one more is: %s", show(next))
		}
		m = next
	}
	if slots.Free(m.Slots) != 1 || len(m.Cache) != 0 {
		t.Errorf("at last it is %s", show(m))
	}
	if b := m.Store.Files[0].Blocks; b[0] != 2 || b[1] < 0 || b[2] != 0 {
		t.Errorf("file 0 has blocks %v", b)
	}
}

// TestEvictUnused: what was used since the hand came by stays longer.
func TestEvictUnused(t *testing.T) {
	m := sample()
	for k := range m.Memory.Frames {
		m.Memory.Frames[k].Used = k != 1 && k != 5
	}
	got, ok := checkEvict(t, "one is not Used", m)
	if !ok || got.Memory.Frames[1].Refs != 0 {
		t.Errorf("frame 1, which was not Used, is not free: %s", show(got))
	}
}

// TestEvictWithoutPlace: without a slot files' pages can go, without a block copies can; nobody sees it, whatever goes.
func TestEvictWithoutPlace(t *testing.T) {
	for _, c := range []struct {
		name          string
		slots, blocks int
		want          int
	}{
		{"neither", 2, 5, 3}, // all file pages that have blocks
		{"no slot", 2, 7, 4}, // all file pages
		{"no block", 6, 5, 6},
		{"one slot", 3, 5, 4},
		{"one block", 2, 6, 4},
	} {
		m, n := small(c.slots, c.blocks), 0
		for range 10 {
			next, ok := checkEvict(t, c.name, m)
			if ok {
				n++
			}
			m = next
		}
		if n != c.want {
			t.Errorf("%s: %d frames became free, not %d: %s", c.name, n, c.want, show(m))
		}
	}
}

// TestEvictFullQueues: of what waits, the first one is for good when too many do.
func TestEvictFullQueues(t *testing.T) {
	m := sample()
	for len(m.Disk.Queue) < api.MaxQueue {
		m.Disk.Queue = append(m.Disk.Queue, api.Put{At: 2, Page: api.Page{byte(len(m.Disk.Queue))}})
	}
	for len(m.Swap.Queue) < api.MaxQueue {
		m.Swap.Queue = append(m.Swap.Queue, api.Put{At: 1, Page: api.Page{byte(len(m.Swap.Queue))}})
	}
	for range 7 {
		next, ok := checkEvict(t, "full queues", m)
		if !ok || len(next.Disk.Queue) != api.MaxQueue || len(next.Swap.Queue) != api.MaxQueue {
			t.Errorf("a frame is free, %t, and there wait %d and %d", ok, len(next.Disk.Queue), len(next.Swap.Queue))
		}
		m = next
	}
}

// TestEvictTail: bytes behind the file's end that a process sees are on no disk then: their frame stays while another one can go, and after.
func TestEvictTail(t *testing.T) {
	m := sample()
	m.Memory.Frames[4].Page[7] = 99 // behind byte 4 of file 1, in page 10 of process 0
	for i := range 6 {
		next, ok := checkEvict(t, fmt.Sprint("tail, frame ", i), m)
		if !ok || next.Memory.Frames[4].Refs == 0 {
			t.Fatalf("frame %d is free, %t: %s", i, ok, show(next))
		}
		m = next
	}
	got, ok, err := Evict(m)
	if ok || err != api.OK || tell(got) != tell(m) {
		t.Errorf("what is on no disk has gone, %t, errno %d: %s", ok, err, show(got))
	}
	m.Spaces[0].Areas = slices.Delete(m.Spaces[0].Areas, 2, 3)
	if got, ok := checkEvict(t, "nobody sees it", m); !ok || frames.Free(got.Memory) != 8 {
		t.Errorf("nobody sees the tail, and it is free, %t", ok)
	}
}

// TestClean: one by one what is Dirty is written, and stays in its frame; copies are no file's.
func TestClean(t *testing.T) {
	m := sample()
	for i := range 2 {
		next, ok := checkClean(t, fmt.Sprint("frame ", i), m)
		if !ok || frames.Free(next.Memory) != 1 {
			t.Fatalf("frame %d is clean, %t: %s", i, ok, show(next))
		}
		m = next
	}
	if next, ok := checkClean(t, "none is Dirty", m); ok || !next.Memory.Frames[7].Dirty {
		t.Errorf("none is left, and one is clean: %s", show(next))
	}
	if b := m.Store.Files[0].Blocks[1]; b < 5 || m.Store.Files[1].Blocks[0] != 4 {
		t.Errorf("files have blocks %+v", m.Store.Files)
	}
}

// TestCleanWithoutBlock: one that gets no block is left, and one that has its own is written, wherever they stand.
func TestCleanWithoutBlock(t *testing.T) {
	for _, from := range []int{0, 3} { // file 0's page, which has no block, ahead of file 1's, or behind it
		m := small(6, 5)
		m.Store.Files[0], m.Store.Files[from] = m.Store.Files[from], m.Store.Files[0]
		if from == 3 {
			swapFiles(&m)
		}
		next, ok := checkClean(t, "one has a block", m)
		if !ok || !next.Memory.Frames[2].Dirty || next.Memory.Frames[4].Dirty {
			t.Errorf("the one that has a block is clean, %t: %s", ok, show(next))
		}
		if next, ok = checkClean(t, "one gets no block", next); ok || !next.Memory.Frames[2].Dirty {
			t.Errorf("the one that gets no block is clean, %t: %s", ok, show(next))
		}
	}
}

// swapFiles has files 0 and 3 change their numbers wherever a machine of small names them, but in its store.
func swapFiles(m *api.Machine) {
	number := func(file int) int {
		if file == 0 || file == 3 {
			return 3 - file
		}
		return file
	}
	for k, f := range m.Memory.Frames {
		m.Memory.Frames[k].File = number(f.File)
	}
	for _, s := range m.Spaces {
		for k, a := range s.Areas {
			s.Areas[k].File = number(a.File)
		}
	}
	m.Cache = []api.Cached{{File: 0, Index: 1, Frame: 6}, {File: 1, Index: 0, Frame: 4}, {File: 3, Index: 0, Frame: 3}, {File: 3, Index: 1, Frame: 2}}
}

// TestCleanSame: a page that is Dirty is written, though the disk has the same; noughts too.
func TestCleanSame(t *testing.T) {
	m := sample()
	m.Memory.Frames[4].Dirty, m.Memory.Frames[6].Dirty = false, true
	m.Memory.Frames[2].Page = api.Page{}
	for i := range 2 {
		next, ok := checkClean(t, fmt.Sprint("the same ", i), m)
		if !ok {
			t.Errorf("frame %d is not clean: %s", i, show(next))
		}
		m = next
	}
}

// TestCleanTail: what a frame has behind the file's end stays in it, and is seen as it was.
func TestCleanTail(t *testing.T) {
	m := sample()
	m.Memory.Frames[4].Page[7], m.Memory.Frames[2].Dirty = 99, false
	next, ok := checkClean(t, "tail", m)
	if !ok || next.Memory.Frames[4].Page[7] != 99 {
		t.Errorf("the frame is clean, %t: %+v", ok, next.Memory.Frames[4])
	}
	for _, file := range []int{0, 1, 2, 3} {
		checkSync(t, fmt.Sprint("tail, file ", file), m, file)
	}
}

// TestSync: of the file nothing is Dirty, and nothing waits, for whichever file.
func TestSync(t *testing.T) {
	for file := range 4 {
		got, err := checkSync(t, fmt.Sprint("file ", file), sample(), file)
		if err != api.OK {
			t.Fatalf("file %d: errno %d", file, err)
		}
		want, _ := machine.Bytes(sample(), file)
		if file == 0 {
			// Page 0, which is not Dirty, is yet unlike what the disk has.
			copy(want, []byte{1, 2, 3, 4, 5, 6, 7, 8})
		}
		for _, bits := range []int{0, -1, 5, math.MinInt, math.MaxInt} {
			after, _ := checkCrash(t, fmt.Sprint("file ", file), got, bits)
			if b, err := machine.Bytes(after, file); !slices.Equal(b, want) || err != api.OK {
				t.Errorf("file %d is %v behind a crash, not %v", file, b, want)
			}
		}
	}
}

// TestSyncFull: its own Dirty pages must have blocks, others' need not.
func TestSyncFull(t *testing.T) {
	m := small(6, 5)
	for file, want := range []api.Errno{api.ErrFull, api.OK, api.OK, api.OK} {
		if _, err := checkSync(t, fmt.Sprint("no block, file ", file), m, file); err != want {
			t.Errorf("file %d: errno %d, not %d", file, err, want)
		}
	}
	// Two pages, and one block; then as many.
	for blocks, want := range map[int]api.Errno{1: api.ErrFull, 2: api.ErrFull, 3: api.OK, 4: api.OK} {
		m, _ := machine.New(api.Config{Frames: 3, Blocks: blocks})
		m.Store.Files = []api.File{{Size: 24, Blocks: []int{-1, 0, -1}}}
		m.Store.Files = append(m.Store.Files, api.File{})
		for i := range 3 {
			m.Memory.Frames[i] = api.Frame{Page: api.Page{byte(i)}, Refs: 1, Dirty: true, File: 0, Index: i}
			m.Cache = append(m.Cache, api.Cached{File: 0, Index: i, Frame: i})
		}
		if machine.Wrong(m) != api.OK {
			t.Fatalf("the machine is wrong: %s", show(m))
		}
		if _, err := checkSync(t, fmt.Sprint(blocks, " blocks"), m, 0); err != want {
			t.Errorf("%d blocks: errno %d, not %d", blocks, err, want)
		}
		checkSync(t, fmt.Sprint(blocks, " blocks"), m, 1)
	}
}

// TestSyncNone: there are files 0 to 3.
func TestSyncNone(t *testing.T) {
	for _, file := range []int{-1, 4, 5, math.MinInt, math.MaxInt} {
		for _, m := range []api.Machine{sample(), small(2, 5)} {
			if _, err := checkSync(t, fmt.Sprint("file ", file), m, file); err != api.ErrNone {
				t.Errorf("file %d: errno %d", file, err)
			}
		}
	}
	if _, err := checkSync(t, "nothing", api.Machine{}, 0); err != api.ErrNone {
		t.Errorf("a machine of nothing: errno %d", err)
	}
}

// TestCrash: of what waits just those writes stay that bits tells, and of memory nothing does.
func TestCrash(t *testing.T) {
	for _, c := range []struct {
		bits int
		want string
	}{
		{0, "[9 9 0 0] [21 0 0 0]"},
		{1, "[9 9 0 0] [22 0 0 0]"},
		{2, "[11 12 13 14] [21 0 0 0]"},
		{3, "[11 12 13 14] [22 0 0 0]"},
		{4, "[9 9 0 0] [21 0 0 0]"},
		{-1, "[11 12 13 14] [22 0 0 0]"},
		{-2, "[11 12 13 14] [21 0 0 0]"},
		{math.MinInt, "[9 9 0 0] [21 0 0 0]"},
		{math.MaxInt, "[11 12 13 14] [22 0 0 0]"},
	} {
		got, err := checkCrash(t, fmt.Sprint("bits ", c.bits), sample(), c.bits)
		if err != api.OK {
			t.Fatalf("bits %d: errno %d", c.bits, err)
		}
		a, _ := machine.Bytes(got, 0)
		b, _ := machine.Bytes(got, 1)
		if s := fmt.Sprint(a[16:], b); s != c.want || fmt.Sprint(a[:16]) != "[1 2 3 4 5 6 7 8 0 0 0 0 0 0 0 0]" {
			t.Errorf("bits %d: files are %v and %v", c.bits, a, b)
		}
	}
}

// TestCrashOfMany: from number 60 on the bits are taken from the lowest one on again.
func TestCrashOfMany(t *testing.T) {
	m := sample()
	for n := range 130 {
		m.Disk.Queue = append(m.Disk.Queue, api.Put{At: n % 5, Page: api.Page{byte(100 + n)}})
	}
	for bit := range 63 {
		checkCrash(t, fmt.Sprint("bit ", bit), m, 1<<bit)
	}
	got, _ := Crash(m, 1<<7)
	// Of writes 7, 67 and 127 the last one is number 125 of those here.
	if got.Disk.Blocks[0] != (api.Page{225}) {
		t.Errorf("block 0 is %v", got.Disk.Blocks[0])
	}
}

// TestCrashOfAll: who is there, or not, and where the hand stands: behind a crash all is as in the beginning.
func TestCrashOfAll(t *testing.T) {
	none, _ := machine.New(api.Config{})
	none.Spaces = nil
	gone := sample()
	gone.Memory.Hand = 7
	for i, m := range []api.Machine{none, {}, gone, small(2, 5)} {
		got, err := checkCrash(t, fmt.Sprint("machine ", i), m, 6)
		if err != api.OK || len(got.Spaces) != 1 || !got.Spaces[0].Live || frames.Free(got.Memory) != len(m.Memory.Frames) {
			t.Errorf("machine %d: errno %d: %s", i, err, show(got))
		}
	}
}

// TestWrittenIsLostOrNot: what Evict and Clean have written waits for the disk: a crash may lose it; what is synced it does not.
func TestWrittenIsLostOrNot(t *testing.T) {
	for name, write := range map[string]func(api.Machine) (api.Machine, bool, api.Errno){"evict": Evict, "clean": Clean} {
		m := sample()
		m.Memory.Hand = 2
		for range 8 {
			m, _, _ = write(m)
		}
		for bits, want := range []string{"[21 0 0 0]", "[63 0 0 64]"} {
			got, _ := checkCrash(t, name, m, -bits)
			if b, _ := machine.Bytes(got, 1); fmt.Sprint(b) != want {
				t.Errorf("%s, bits %d: file 1 is %v", name, -bits, b)
			}
		}
		synced, err := checkSync(t, name, m, 2)
		if err != api.OK {
			t.Fatalf("%s: errno %d", name, err)
		}
		got, _ := checkCrash(t, name, synced, 0)
		if b, _ := machine.Bytes(got, 1); fmt.Sprint(b) != "[63 0 0 64]" {
			t.Errorf("%s: another file was synced, and file 1 is %v", name, b)
		}
	}
}

// TestSyncLeavesSwap: what waits for slots is no file's.
func TestSyncLeavesSwap(t *testing.T) {
	got, _ := checkSync(t, "file 0", sample(), 0)
	if x, err := disk.Read(got.Swap, 1); x != (api.Page{72}) || err != api.OK {
		t.Errorf("slot 1 reads %v, errno %d", x, err)
	}
}

// TestWrongMachines: what is wrong with the machine is told ahead of all else.
func TestWrongMachines(t *testing.T) {
	for _, c := range []struct {
		name string
		do   func(m *api.Machine)
		want api.Errno
	}{
		{"41 frames", func(m *api.Machine) { m.Memory.Frames = make([]api.Frame, 41) }, api.ErrMany},
		{"Hand 8", func(m *api.Machine) { m.Memory.Hand = 8 }, api.ErrRange},
		{"slot -1", func(m *api.Machine) { m.Slots[0] = -1 }, api.ErrRange},
		{"61 slots", func(m *api.Machine) { m.Slots = make(api.Slots, 61) }, api.ErrMany},
		{"a swap disk of a block more", func(m *api.Machine) { m.Swap.Blocks = append(m.Swap.Blocks, api.Page{}) }, api.ErrFit},
		{"a write to no block", func(m *api.Machine) { m.Disk.Queue[0].At = 7 }, api.ErrRange},
		{"401 that wait", func(m *api.Machine) { m.Disk.Queue = make([]api.Put, 401) }, api.ErrMany},
		{"a write to a block that no page has", func(m *api.Machine) { m.Disk.Queue[0].At = 6 }, api.ErrFit},
		{"a block that is two pages'", func(m *api.Machine) { m.Store.Files[0].Blocks[1] = 4 }, api.ErrFit},
		{"a page more than bytes", func(m *api.Machine) { m.Store.Files[2].Blocks = []int{-1} }, api.ErrForm},
		{"five processes", func(m *api.Machine) { m.Spaces = append(m.Spaces, api.Space{}, api.Space{}) }, api.ErrMany},
		{"an area behind Span", func(m *api.Machine) { m.Spaces[2].Areas[3].To = 65 }, api.ErrRange},
		{"an entry of kind 3", func(m *api.Machine) { m.Spaces[0].Table[0][5].Kind = 3 }, api.ErrKind},
		{"an area, not Live", func(m *api.Machine) { m.Spaces[0].Live = false }, api.ErrFit},
		{"an entry in no area", func(m *api.Machine) { m.Spaces[0].Table[0][0] = present(1) }, api.ErrNone},
		{"a frame held once more", func(m *api.Machine) { m.Memory.Frames[1].Refs++ }, api.ErrFit},
		{"a slot held once less", func(m *api.Machine) { m.Slots[0]-- }, api.ErrFit},
		{"a file's page not in the cache", func(m *api.Machine) { m.Cache = m.Cache[:3] }, api.ErrFit},
		{"a copy of two that one may write", func(m *api.Machine) { m.Spaces[0].Table[0][2].Write = true }, api.ErrFit},
	} {
		m := sample()
		c.do(&m)
		checkEvict(t, c.name, m)
		checkClean(t, c.name, m)
		for _, n := range []int{0, 3, 4, -1, math.MinInt, math.MaxInt} {
			if _, err := checkSync(t, c.name, m, n); err != c.want {
				t.Errorf("%s: file %d is synced: errno %d, not %d", c.name, n, err, c.want)
			}
			if _, err := checkCrash(t, c.name, m, n); err != c.want {
				t.Errorf("%s: a crash: errno %d, not %d", c.name, err, c.want)
			}
		}
	}
}

// TestExampleOfTheDocument: of a machine that has nothing no frame can be free.
func TestExampleOfTheDocument(t *testing.T) {
	m, _ := machine.New(api.Config{})
	if _, ok := checkEvict(t, "nothing", m); ok {
		t.Errorf("a frame is free")
	}
	if _, ok := checkClean(t, "nothing", m); ok {
		t.Errorf("a frame was Dirty")
	}
}
