package kernel

import (
	"fmt"
	"slices"
	"testing"

	"pagewright/api"
	"pagewright/machine"
)

// rule tells numbers that look like any, one behind the other, always the same ones.
type rule int

// upTo is the next number, from 0 to below n (0, if n is).
func (r *rule) upTo(n int) int {
	*r = (*r*1103515245 + 12345) % (1 << 31)
	if n < 1 {
		return 0
	}
	return int(*r>>8) % n
}

func (r *rule) holds() bool { return r.upTo(2) == 0 }

// bytes are n of them, none of which is a nought.
func (r *rule) bytes(n int) []byte {
	b := make([]byte, n)
	for i := range b {
		b[i] = byte(1 + r.upTo(250))
	}
	return b
}

// pages is how many pages processes use in a walk, from page 0 on: 4 processes have fewer copies then than there can be slots.
const pages = 12

// call is one that a process of m may make; mostly it is not refused.
func (r *rule) call(m api.Machine) api.Call {
	// The kinds that tell most come most.
	kinds := []int{1, 1, 1, 2, 3, 3, 4, 4, 4, 4, 4, 5, 5, 5, 5, 5, 5, 5, 6, 6, 7, 8, 9, 9, 10, 10, 10, 10, 11, 11, 12, 13, 13, 13, 14, 14}
	c := api.Call{Kind: kinds[r.upTo(len(kinds))], Proc: r.proc(m), File: r.upTo(len(m.Store.Files)), N: 1 + r.upTo(4)}
	switch {
	case r.upTo(60) == 0:
		c.Kind = api.StepCrash
	case c.Kind <= api.CallStore && len(m.Spaces[c.Proc].Areas) < 3 && r.upTo(4) > 0:
		c.Kind = api.CallMap
	}
	switch c.Kind {
	case api.CallMap:
		c.At, c.Read, c.Write = r.upTo(pages-c.N+1), r.upTo(8) > 0, r.upTo(4) > 0
		c.File = r.upTo(len(m.Store.Files)+1) - 1
		if c.File >= 0 {
			c.Base, c.Shared = r.upTo(4), r.holds()
		}
	case api.CallUnmap, api.CallProtect:
		c.At, c.N, c.Read, c.Write = r.page(m, c.Proc), 1+r.upTo(2), r.upTo(8) > 0, r.upTo(3) > 0
	case api.CallLoad, api.CallStore:
		in := r.upTo(size)
		c.At, c.N = r.page(m, c.Proc)*size+in, r.upTo(size-in+1)
		c.Data = r.bytes(c.N)
	case api.CallRead:
		c.At, c.N = r.upTo(60), r.upTo(60)
	case api.CallWrite:
		c.At = r.upTo(50)
		c.Data = r.bytes(r.upTo(20))
	case api.CallTrunc:
		c.N = r.upTo(50)
	case api.StepCrash:
		c.N = r.upTo(1<<30)<<30 | r.upTo(1<<30)
	}
	return c
}

// proc is a process of m, mostly one that is Live.
func (r *rule) proc(m api.Machine) int {
	for p, s := range m.Spaces {
		if s.Live && r.holds() {
			return p
		}
	}
	return r.upTo(len(m.Spaces))
}

// page is one of process p, mostly one that lies in an area.
func (r *rule) page(m api.Machine, p int) int {
	if l := m.Spaces[p].Areas; len(l) > 0 && r.upTo(12) > 0 {
		a := l[r.upTo(len(l))]
		return a.From + r.upTo(a.To-a.From)
	}
	return r.upTo(pages)
}

// history is what each byte of each file was since the file was synced, or since the power failed.
type history [api.MaxFiles][fileOf][256]bool

// note has f be what files are now; where they got longer there were noughts.
func (h *history) note(was, is flat) {
	for file, b := range is.files {
		for at, x := range b {
			h[file][at][x] = true
			if file >= len(was.files) || at >= len(was.files[file]) {
				h[file][at][0] = true
			}
		}
	}
}

// settle has file be for good what b is.
func (h *history) settle(file int, b []byte) {
	h[file] = [fileOf][256]bool{}
	for at, x := range b {
		h[file][at][x] = true
	}
}

// walk is a machine, the memory that it must be like, and what files may be behind a crash.
type walk struct {
	*testing.T
	m     api.Machine
	like  flat
	since history
	count map[string]int
}

// step has c be called.
func (w *walk) step(name string, c api.Call) {
	was := w.like.copied()
	next, a := check(w.T, name, w.m, c)
	w.m = next
	w.count[fmt.Sprintf("kind %d, errno %d", c.Kind, a.Err)]++
	if a.Err != api.OK {
		return
	}
	w.like.do(c)
	is := flatOf(w.T, name, w.m)
	switch c.Kind {
	case api.StepCrash:
		w.crashed(name, is)
	case api.CallSync:
		w.since.settle(c.File, is.files[c.File])
	default:
		w.since.note(was, is)
	}
	if !is.equal(w.like) {
		w.Fatalf("%s: it is %+v, not %+v", name, is, w.like)
	}
	checkTails(w.T, name, w.m)
}

// crashed: each byte of a file is one that it was since it was synced; that is what it was for good then.
func (w *walk) crashed(name string, is flat) {
	for file, b := range is.files {
		if len(b) != len(w.like.files[file]) {
			w.Fatalf("%s: file %d is %v, and was %v", name, file, b, w.like.files[file])
		}
		for at, x := range b {
			if !w.since[file][at][x] {
				w.Fatalf("%s: byte %d of file %d is %d behind a crash, and never was", name, at, file, x)
			}
			if x != w.like.files[file][at] {
				w.count["lost"]++
			}
		}
		w.since.settle(file, b)
		w.like.files[file] = b
	}
}

func begun(t *testing.T, c api.Config, count map[string]int) *walk {
	m, err := machine.New(c)
	if err != api.OK {
		t.Fatalf("%+v: errno %d", c, err)
	}
	return &walk{T: t, m: m, like: flatOf(t, "new", m), count: count}
}

// stroll has a machine of c answer so many calls.
func stroll(t *testing.T, c api.Config, steps, seed int, count map[string]int) {
	w, r := begun(t, c, count), rule(seed)
	for range 2 {
		w.step("begin", api.Call{Kind: api.CallCreate})
	}
	for step := range steps {
		w.step(fmt.Sprintf("%+v, step %d", c, step), r.call(w.m))
		if t.Failed() {
			t.Fatal(show(w.m))
		}
	}
}

// TestAsIfMemoryWereFlat: with few frames or many, whatever is paged, and when, each call is answered as memory without any of that would; and when the power fails what is synced is there. There is place on the disks for all: nothing is full.
func TestAsIfMemoryWereFlat(t *testing.T) {
	count := map[string]int{}
	for i, n := range []int{1, 2, 3, 5, 9, 40} {
		stroll(t, api.Config{Frames: n, Slots: 60, Blocks: 60}, 900, 7+i, count)
	}
	for what, n := range count {
		if slices.Contains([]string{"kind 4, errno 10", "kind 5, errno 10", "kind 10, errno 10", "kind 12, errno 10"}, what) {
			t.Errorf("%s: %d times, and there is place for all", what, n)
		}
	}
	for _, what := range []string{
		"kind 1, errno 0", "kind 1, errno 6", "kind 2, errno 0", "kind 3, errno 0", "kind 3, errno 5",
		"kind 4, errno 0", "kind 4, errno 5", "kind 4, errno 8", "kind 4, errno 9", "kind 5, errno 0", "kind 5, errno 5", "kind 5, errno 8", "kind 5, errno 9",
		"kind 6, errno 0", "kind 6, errno 4", "kind 7, errno 0", "kind 8, errno 4", "kind 9, errno 0", "kind 10, errno 0", "kind 11, errno 0", "kind 12, errno 0",
		"kind 13, errno 0", "kind 14, errno 0", "kind 15, errno 0", "lost",
	} {
		if count[what] < 20 {
			t.Errorf("%s: only %d times: too few to tell: %v", what, count[what], count)
		}
	}
}

// TestWithoutRoom: with too little of something, or nothing, some calls are full; all else is as ever.
func TestWithoutRoom(t *testing.T) {
	count := map[string]int{}
	for i, c := range []api.Config{{Frames: 4, Slots: 3, Blocks: 4}, {Frames: 3}, {Frames: 2, Slots: 60}, {Frames: 6, Blocks: 60}, {}, {Slots: 9}} {
		stroll(t, c, 300, 31+i, count)
	}
	for _, what := range []string{"kind 4, errno 10", "kind 5, errno 10", "kind 10, errno 10", "kind 12, errno 10"} {
		if count[what] < 5 {
			t.Errorf("%s: only %d times: too few to tell: %v", what, count[what], count)
		}
	}
}

// TestFilesWithoutFrames: files are read and written, though there is no frame.
func TestFilesWithoutFrames(t *testing.T) {
	count := map[string]int{}
	stroll(t, api.Config{Blocks: 60}, 600, 77, count)
	if count["kind 10, errno 10"] > 0 || count["kind 10, errno 0"] < 50 || count["lost"] == 0 {
		t.Errorf("it is %v", count)
	}
}

// TestFewFramesOrMany: the same calls have the same answers.
func TestFewFramesOrMany(t *testing.T) {
	for seed := range 8 {
		many := api.Config{Frames: 40, Slots: 60, Blocks: 80}
		m, _ := machine.New(many)
		r := rule(seed)
		l := []api.Call{{Kind: api.CallCreate}}
		for len(l) < api.MaxCalls {
			c := r.call(m)
			if c.Kind == api.StepCrash {
				// What is lost hangs on what was written to the disk, and when.
				l = append(l, api.Call{Kind: api.CallSync, File: 0}, api.Call{Kind: api.CallSync, File: 1}, api.Call{Kind: api.CallSync, File: 2}, api.Call{Kind: api.CallSync, File: 3}, api.Call{Kind: api.CallSync, File: 4})
			}
			l = append(l, c)
			l = l[:min(len(l), api.MaxCalls)]
			var err api.Errno
			if m, _, err = Play(many, l); err != api.OK {
				t.Fatalf("errno %d", err)
			}
		}
		_, want, _ := Play(many, l)
		for few := 1; few < 12; few++ {
			_, got, err := Play(api.Config{Frames: few, Slots: 60, Blocks: 60}, l)
			if err != api.OK || !slices.EqualFunc(got, want, same) {
				t.Errorf("seed %d, %d frames: errno %d, answers %v, not %v", seed, few, err, got, want)
			}
		}
	}
}
