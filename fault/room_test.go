package fault

import (
	"slices"
	"testing"

	"pagewright/api"
	"pagewright/machine"
	"pagewright/table"
)

// filled is a machine without a free frame, in which frame k has what sort k lays there. Process 0 may use page 60, of no file, and page 61, of file 0's last page, which is on the disk, and in no frame.
func filled(slots, blocks int, sorts ...func(m *api.Machine, k int)) api.Machine {
	m, _ := machine.New(api.Config{Frames: len(sorts), Slots: slots, Blocks: blocks + 1})
	m.Store.Files = []api.File{{Size: 94, Blocks: slices.Repeat([]int{-1}, 12)}}
	m.Store.Files[0].Blocks[11] = 0
	m.Disk.Blocks[0] = api.Page{1, 2, 3, 4, 5, 6, 7, 8}
	m.Spaces[0].Areas = []api.Area{
		{From: 0, To: 10, Read: true, Write: true, File: -1},
		{From: 10, To: 20, Read: true, Write: true, Shared: true, File: 0},
		{From: 20, To: 30, Read: true, Write: true, File: 0},
		{From: 60, To: 61, Read: true, Write: true, File: -1},
		{From: 61, To: 62, Read: true, Write: true, File: 0, Base: 11},
	}
	m.Spaces = append(m.Spaces, api.Space{Live: true, Areas: slices.Clone(m.Spaces[0].Areas[:3])})
	for k, sort := range sorts {
		sort(&m, k)
	}
	return m
}

// Sorts of frames: of page k of file 0, or of no file.

func alone(m *api.Machine, k int) {
	m.Memory.Frames[k] = api.Frame{Page: api.Page{byte(100 + k)}, Refs: 1, Used: true, File: -1}
	lay(m, 0, k, writable(k))
}

func ofTwo(m *api.Machine, k int) {
	m.Memory.Frames[k] = api.Frame{Page: api.Page{byte(110 + k)}, Refs: 2, File: -1}
	lay(m, 0, k, present(k))
	lay(m, 1, 20+k, present(k))
}

func cached(m *api.Machine, k int) {
	m.Memory.Frames[k] = api.Frame{Page: api.Page{byte(120 + k)}, Refs: 1, File: 0, Index: k}
	m.Cache = append(m.Cache, api.Cached{File: 0, Index: k, Frame: k})
}

func dirty(m *api.Machine, k int) {
	cached(m, k)
	m.Memory.Frames[k].Dirty = true
}

func mapped(m *api.Machine, k int) {
	cached(m, k)
	m.Memory.Frames[k].Refs = 4
	lay(m, 0, 10+k, writable(k))
	lay(m, 1, 10+k, present(k))
	lay(m, 1, 20+k, present(k))
}

func noughts(m *api.Machine, k int) {
	dirty(m, k)
	m.Memory.Frames[k].Page = api.Page{}
}

// withBlock is a cached page that has a block already, of other bytes.
func withBlock(m *api.Machine, k int) {
	mapped(m, k)
	m.Store.Files[0].Blocks[k] = len(m.Disk.Blocks) - 1
	m.Disk.Queue = append(m.Disk.Queue, api.Put{At: len(m.Disk.Blocks) - 1, Page: api.Page{33}})
}

// clean is one of the same bytes.
func clean(m *api.Machine, k int) {
	withBlock(m, k)
	m.Disk.Queue[len(m.Disk.Queue)-1].Page = m.Memory.Frames[k].Page
}

type sort struct {
	name                  string
	lay                   func(m *api.Machine, k int)
	takes                 int  // how many blocks it has
	needsSlot, needsBlock bool // what it needs to leave its frame
}

func sorts() []sort {
	return []sort{
		{name: "a copy of one", lay: alone, needsSlot: true},
		{name: "a copy of two", lay: ofTwo, needsSlot: true},
		{name: "a file's page, not Dirty, and unlike the disk", lay: cached, needsBlock: true},
		{name: "a file's page that is Dirty", lay: dirty, needsBlock: true},
		{name: "a file's page of three pages", lay: mapped, needsBlock: true},
		{name: "a file's page of noughts", lay: noughts},
		{name: "a file's page that has a block", lay: withBlock, takes: 1},
		{name: "a file's page that is as on the disk", lay: clean, takes: 1},
	}
}

// TestOneFrame: of one frame that is not free, whatever is in it, the page that is used gets that frame, if the other one finds a place.
func TestOneFrame(t *testing.T) {
	for _, s := range sorts() {
		for _, slots := range []int{0, 1} {
			for _, blocks := range []int{0, 1} {
				m := filled(slots, blocks+s.takes, s.lay)
				want := api.OK
				if slots == 0 && s.needsSlot || blocks == 0 && s.needsBlock {
					want = api.ErrFull
				}
				for _, n := range []int{60, 61} {
					for _, write := range []bool{false, true} {
						if _, _, err := check(t, s.name, m, 0, n, write); err != want {
							t.Errorf("%s, %d slots, %d blocks: page %d is errno %d, not %d", s.name, slots, blocks, n, err, want)
						}
					}
				}
			}
		}
	}
}

// TestOneOfManyCanLeave: of many frames the one that can leave does, wherever it is, and the hand stands.
func TestOneOfManyCanLeave(t *testing.T) {
	const count = 5
	for k := range count {
		for hand := range count {
			for _, used := range []bool{false, true} {
				for _, stuck := range []func(m *api.Machine, k int){alone, ofTwo} {
					l := slices.Repeat([]func(m *api.Machine, k int){stuck}, count)
					l[k] = clean
					m := filled(0, 1, l...)
					m.Memory.Hand = hand
					for i := range m.Memory.Frames {
						m.Memory.Frames[i].Used = used
					}
					if _, frame, err := check(t, "one that is clean", m, 0, 60, true); err != api.OK || frame != k {
						t.Errorf("frame %d is clean, and the hand at %d: errno %d, frame %d", k, hand, err, frame)
					}
				}
			}
		}
	}
}

// TestUsedStays: of two frames that can leave it is the one that was not used since the hand came by.
func TestUsedStays(t *testing.T) {
	for hand := range 2 {
		for idle := range 2 {
			m := filled(2, 2, alone, alone)
			m.Memory.Hand = hand
			m.Memory.Frames[idle].Used = false
			if _, frame, err := check(t, "two", m, 0, 60, false); err != api.OK || frame != idle {
				t.Errorf("frame %d is not Used, and the hand at %d: errno %d, frame %d", idle, hand, err, frame)
			}
		}
	}
}

// TestOwnFrameLeaves: who writes may get the very frame that it was in, if that is the only one.
func TestOwnFrameLeaves(t *testing.T) {
	m := filled(1, 0, ofTwo)
	m, _, err := check(t, "a copy of two, written", m, 0, 0, true)
	if err != api.OK || m.Slots[0] != 1 || table.Get(m.Spaces[1].Table, 20) != swapped(0) {
		t.Errorf("a copy of two, written: errno %d, %s", err, show(m))
	}
	m = filled(0, 1, mapped)
	m, _, err = check(t, "a file's page, written by one who has it for its own", m, 1, 20, true)
	if err != api.OK || len(m.Cache) != 0 || m.Store.Files[0].Blocks[0] != 1 {
		t.Errorf("a file's page, written by one who has it for its own: errno %d, %s", err, show(m))
	}
	if _, _, err := check(t, "without a block", filled(9, 0, mapped), 1, 20, true); err != api.ErrFull {
		t.Errorf("without a block: errno %d", err)
	}
	if _, _, err := check(t, "without a slot", filled(0, 9, ofTwo), 0, 0, true); err != api.ErrFull {
		t.Errorf("without a slot: errno %d", err)
	}
}

// TestSlotIsExchanged: a page comes out of the last slot, and another one goes in.
func TestSlotIsExchanged(t *testing.T) {
	m := filled(1, 0, alone)
	m.Slots[0], m.Swap.Blocks[0] = 1, api.Page{77}
	lay(&m, 0, 60, swapped(0))
	for _, write := range []bool{false, true} {
		got, k, err := check(t, "a slot of one", m, 0, 60, write)
		if err != api.OK || k != 0 || got.Slots[0] != 1 || table.Get(got.Spaces[0].Table, 0) != swapped(0) {
			t.Errorf("a slot of one, write %t: errno %d, frame %d, %s", write, err, k, show(got))
		}
	}
	m.Slots[0] = 2
	lay(&m, 1, 21, swapped(0))
	if _, _, err := check(t, "a slot of two, read", m, 0, 60, false); err != api.OK {
		t.Errorf("a slot of two, read: errno %d", err)
	}
	if _, _, err := check(t, "a slot of two, written", m, 0, 60, true); err != api.ErrFull {
		t.Errorf("a slot of two, written: errno %d", err)
	}
}

// TestBehindTheEnd: what a frame has behind its file's end is on no disk: it stays while somebody sees it.
func TestBehindTheEnd(t *testing.T) {
	behind := func(m *api.Machine, k int) {
		m.Memory.Frames[k] = api.Frame{Page: api.Page{1, 2, 3, 4, 5, 6, 7, 8}, Refs: 1, Dirty: true, File: 0, Index: 11}
		m.Cache = []api.Cached{{File: 0, Index: 11, Frame: k}}
	}
	m := filled(1, 1, behind)
	if _, _, err := check(t, "seen by page 61", m, 0, 60, true); err != api.ErrFull {
		t.Errorf("seen by page 61: errno %d", err)
	}
	got, _, err := check(t, "seen by page 61, which gets a copy", m, 0, 61, true)
	if b, _ := machine.Bytes(got, 0); err != api.OK || len(b) != 94 || b[93] != 6 {
		t.Errorf("seen by page 61, which gets a copy: errno %d, %s", err, show(got))
	}
	m.Spaces[0].Areas[4].Base = 10
	got, _, err = check(t, "seen by nobody", m, 0, 60, true)
	if b, _ := machine.Bytes(got, 0); err != api.OK || b[93] != 6 {
		t.Errorf("seen by nobody: errno %d, %s", err, show(got))
	}
}

// TestCopiesOfASlot: copies that leave their frame together, and come back one by one, are all as they were.
func TestCopiesOfASlot(t *testing.T) {
	m := filled(3, 0, ofTwo)
	m, _, _ = check(t, "another page", m, 0, 60, true)
	m, _, err := check(t, "one of the two, written", m, 1, 20, true)
	if err != api.OK || m.Slots[0] != 1 {
		t.Fatalf("one of the two, written: errno %d, %s", err, show(m))
	}
	m.Memory.Frames[0].Page = api.Page{5}
	m, k, err := check(t, "the other one, read", m, 0, 0, false)
	if err != api.OK || m.Memory.Frames[k].Page != (api.Page{110}) {
		t.Errorf("the other one, read: errno %d, %s", err, show(m))
	}
	if x, isCopy, err := machine.View(m, 1, 20); x != (api.Page{5}) || !isCopy || err != api.OK {
		t.Errorf("the one that was written is %v, errno %d", x, err)
	}
}

// TestManyRounds: however often pages come and go, the disks take it.
func TestManyRounds(t *testing.T) {
	m := filled(20, 11, mapped)
	var last [30]byte
	for i := range 1000 {
		n := i * 7 % 30
		next, k, err := Use(m, 0, n, true)
		if err != api.OK {
			t.Fatalf("use %d: errno %d", i, err)
		}
		m = next
		m.Memory.Frames[k].Page[1], last[n] = byte(i), byte(i)
	}
	for n := range 30 {
		if x, _, err := machine.View(m, 0, n); err != api.OK || x[1] != last[n] {
			t.Errorf("page %d is %v, errno %d, and had %d", n, x, err, last[n])
		}
	}
}
