package fault

import (
	"fmt"
	"testing"

	"pagewright/api"
	"pagewright/areas"
	"pagewright/frames"
	"pagewright/machine"
	"pagewright/table"
)

// rule tells numbers that look like any, one behind the other, always the same ones.
type rule int

// upTo is the next number, from 0 to below n (0, if n is).
func (r *rule) upTo(n int) int {
	*r = (*r*1103515245 + 12345) % (1 << 31)
	if n < 1 {
		return 0
	}
	return int(*r>>8) % n
}

func (r *rule) holds() bool { return r.upTo(2) == 0 }

// begun is a machine of few frames, slots and blocks, with files and areas, of which nothing was used yet.
func begun(r *rule) api.Machine {
	m, _ := machine.New(api.Config{Frames: r.upTo(6), Slots: r.upTo(8), Blocks: r.upTo(8)})
	block := 0
	for range 1 + r.upTo(3) {
		f := api.File{Size: r.upTo(30)}
		for i := 0; i < f.Size; i += api.PageSize {
			if block == m.Store.Count || r.holds() {
				f.Blocks = append(f.Blocks, -1)
				continue
			}
			f.Blocks = append(f.Blocks, block)
			m.Disk.Blocks[block] = api.Page{byte(r.upTo(250)), 2, 3, 4, 5, 6, 7, byte(r.upTo(250))}
			block++
		}
		m.Store.Files = append(m.Store.Files, f)
	}
	m.Spaces = make([]api.Space, 1+r.upTo(3))
	for p := range m.Spaces {
		m.Spaces[p].Live = r.upTo(5) > 0
		for m.Spaces[p].Live && len(m.Spaces[p].Areas) < 4 {
			from := r.upTo(30)
			a := api.Area{From: from, To: from + 1 + r.upTo(4), Read: r.upTo(8) > 0, Write: r.upTo(4) > 0, File: r.upTo(5) - 1}
			if a.File >= 0 {
				a.Base, a.Shared = r.upTo(3), r.holds()
			}
			if l, err := areas.Map(m.Spaces[p].Areas, a); err == api.OK {
				m.Spaces[p].Areas = l
			}
		}
	}
	return m
}

// stirred is m with things changed that leave it right, and that no promise forbids.
func stirred(m api.Machine, r *rule) api.Machine {
	m = machine.Own(m)
	m.Memory.Hand = r.upTo(len(m.Memory.Frames))
	for k := range m.Memory.Frames {
		f := &m.Memory.Frames[k]
		if f.Refs > 0 {
			f.Used, f.Dirty = r.holds(), r.holds()
			if r.upTo(6) == 0 {
				f.Page[r.upTo(api.PageSize)] = byte(r.upTo(3))
			}
		}
	}
	return m
}

// forked is m with process p once more, by which all that is a copy of both is written by neither; m, if there are too many.
func forked(m api.Machine, p int) api.Machine {
	if len(m.Spaces) == api.MaxProcs {
		return m
	}
	m = machine.Own(m)
	s := m.Spaces[p]
	s.Table = table.Guard(s.Table)
	for _, n := range table.Pages(s.Table) {
		if e := table.Get(s.Table, n); e.Kind == api.Present {
			m.Memory.Frames[e.N].Refs++
		} else {
			m.Slots[e.N]++
		}
	}
	m.Spaces[p] = s
	m.Spaces = append(m.Spaces, s)
	return machine.Own(m)
}

// places tells which files' pages are in frames, which slots are held, and what waits for the disks.
func places(m api.Machine) string { return fmt.Sprint(m.Cache, m.Slots, m.Disk.Queue, m.Swap.Queue) }

// somewhere is a page of a process; mostly it lies in an area.
func somewhere(m api.Machine, r *rule) (p, n int) {
	p = r.upTo(len(m.Spaces))
	if l := m.Spaces[p].Areas; len(l) > 0 && r.upTo(20) > 0 {
		a := l[r.upTo(len(l))]
		return p, a.From + r.upTo(a.To-a.From)
	}
	return p, r.upTo(66) - 1
}

// TestWalks: machines that go from use to use, each of them held against the promise.
func TestWalks(t *testing.T) {
	r := rule(9)
	count := map[string]int{}
	for walk := range 150 {
		m := begun(&r)
		for step := range 40 {
			p, n := somewhere(m, &r)
			write := r.holds()
			name := fmt.Sprintf("walk %d, step %d: page %d of process %d, write %t", walk, step, n, p, write)
			free := frames.Free(m.Memory)
			next, k, err := check(t, name, m, p, n, write)
			if t.Failed() {
				t.Fatal(show(m))
			}
			count[fmt.Sprint("errno ", err)]++
			if err != api.OK {
				continue
			}
			if free == 0 && places(m) != places(next) {
				count["a page leaves its frame"]++
			}
			m = next
			if write {
				m.Memory.Frames[k].Page[r.upTo(3)] = byte(r.upTo(250))
			}
			switch r.upTo(8) {
			case 0:
				m = stirred(m, &r)
			case 1:
				m = forked(m, p)
			}
			if err := machine.Wrong(m); err != api.OK {
				t.Fatalf("%s: the walk goes wrong: %d: %s", name, err, show(m))
			}
		}
	}
	for _, what := range []string{"errno 0", "errno 5", "errno 8", "errno 9", "errno 10", "a page leaves its frame"} {
		if count[what] < 100 {
			t.Errorf("%s: only %d times: too few to tell: %v", what, count[what], count)
		}
	}
}

// TestFewFramesOrMany: what processes store, and what they load, is the same with few frames as with as many as they need.
func TestFewFramesOrMany(t *testing.T) {
	for _, few := range []int{1, 2, 3, 7} {
		r := rule(few)
		little, many := flat(few), flat(40)
		for step := range 400 {
			p, n, write, b := r.upTo(2), r.upTo(24), r.holds(), byte(r.upTo(250))
			for _, m := range []*api.Machine{&little, &many} {
				next, k, err := Use(*m, p, n, write)
				if err != api.OK {
					t.Fatalf("%d frames, step %d: page %d of process %d is errno %d", len(m.Memory.Frames), step, n, p, err)
				}
				*m = next
				if write {
					m.Memory.Frames[k].Page[b%4] = b
				}
			}
			x, _, _ := machine.View(little, p, n)
			if y, _, _ := machine.View(many, p, n); x != y {
				t.Fatalf("%d frames, step %d: page %d of process %d is %v, not %v", few, step, n, p, x, y)
			}
		}
		little, many = used24(little), used24(many)
		for p := range 2 {
			for n := range 24 {
				x, xCopy, _ := machine.View(little, p, n)
				if y, yCopy, _ := machine.View(many, p, n); x != y || xCopy != yCopy {
					t.Errorf("%d frames: at last page %d of process %d is %v, copy %t; not %v, copy %t", few, n, p, x, xCopy, y, yCopy)
				}
			}
		}
	}
}

// flat is a machine of two processes that may use pages 0 to 23: of no file, of a file for all, of that file for their own.
func flat(count int) api.Machine {
	m, _ := machine.New(api.Config{Frames: count, Slots: 40, Blocks: 8})
	m.Store.Files = []api.File{{Size: 60, Blocks: []int{3, -1, -1, 0, -1, -1, -1, 5}}}
	m.Disk.Blocks[3], m.Disk.Blocks[0], m.Disk.Blocks[5] = api.Page{1}, api.Page{2}, api.Page{3, 4, 5, 6, 7, 8, 9, 10}
	l := []api.Area{
		{From: 0, To: 8, Read: true, Write: true, File: -1},
		{From: 8, To: 16, Read: true, Write: true, Shared: true, File: 0},
		{From: 16, To: 24, Read: true, Write: true, File: 0},
	}
	m.Spaces = []api.Space{{Live: true, Areas: l}, {Live: true, Areas: l}}
	return m
}

// used24 is m when each page was read once.
func used24(m api.Machine) api.Machine {
	for p := range 2 {
		for n := range 24 {
			m, _, _ = Use(m, p, n, false)
		}
	}
	return m
}
